package node

import (
	"raddle/api"
	"raddle/checkpoint"
	"raddle/envelope"
	"raddle/epoch"
	"raddle/state"
)

// mostEntries is how many entries a node that is behind is told at once.
const mostEntries = 4

// deed is what a kind of message does.
type deed func(n *Node, m api.Msg, x api.Envelope, w *work) api.Errno

// Hear hears an envelope.
func (n *Node) Hear(x api.Envelope) (out Out, err api.Errno) {
	if err := n.silent(); err != api.OK {
		return Out{}, err
	}
	var w work
	defer func() {
		if err == api.OK {
			out, err = n.goOut(&w)
		}
		n.counts(err)
	}()
	return Out{}, n.hear(x, &w)
}

func (n *Node) hear(x api.Envelope, w *work) api.Errno {
	m, err := envelope.Open(n.keys, n.config.Nodes, x)
	switch {
	case err != api.OK:
		return err
	case x.From == n.me:
		return api.ErrSender
	}
	return deedOf(m.Kind)(n, m, x, w)
}

// deedOf tells what a kind of message does.
func deedOf(kind int) deed {
	switch kind {
	case api.MsgMark:
		return (*Node).hearMark
	case api.MsgStatus:
		return (*Node).hearStatus
	case api.MsgState:
		return (*Node).hearState
	}
	return (*Node).hearOfSegment
}

// hearOfSegment hands a message to the segment of which it speaks.
func (n *Node) hearOfSegment(m api.Msg, x api.Envelope, w *work) api.Errno {
	number, leader := n.now.subject(m)
	if number != n.now.state.Epoch {
		return api.ErrEpoch
	}
	s, there := n.now.segments[leader]
	if !there {
		return api.ErrSlot
	}
	said, err := s.Hear(m, x)
	if err != api.OK {
		return err
	}
	return n.take(said, w)
}

// subject tells the epoch of which a message speaks, and the leader whose segment it is of; -1, if its slot is nobody's.
func (t *term) subject(m api.Msg) (number, leader int) {
	switch m.Kind {
	case api.MsgPropose:
		return m.Epoch, epoch.Owner(t.epoch, m.Slot)
	case api.MsgVote:
		return m.Vote.Epoch, epoch.Owner(t.epoch, m.Vote.Slot)
	case api.MsgChange:
		return m.Change.Epoch, m.Change.Leader
	case api.MsgEntry:
		return m.Cert.Vote.Epoch, epoch.Owner(t.epoch, m.Cert.Vote.Slot)
	}
	return m.Epoch, m.Leader
}

func (n *Node) hearMark(m api.Msg, x api.Envelope, w *work) api.Errno {
	if err := n.marks.Add(x.From, m.Epoch, m.Digest, x.Tag); err != api.OK {
		return err
	}
	return n.closeEpoch(w)
}

// hearStatus tells a node that is behind some of what it lacks.
func (n *Node) hearStatus(m api.Msg, x api.Envelope, w *work) api.Errno {
	own := n.now.state
	switch {
	case m.Epoch < own.Epoch:
		w.to = x.From
		w.direct = tell(w.direct, api.Msg{Kind: api.MsgState, State: state.Bytes(own), Signs: n.now.signs})
	case m.Epoch == own.Epoch && m.Slot < n.now.ledger.Next():
		w.to = x.From
		for _, e := range n.now.ledger.Entries(m.Slot, mostEntries) {
			w.direct = tell(w.direct, api.Msg{Kind: api.MsgEntry, Batch: e.Batch, Cert: e.Cert})
		}
	}
	return api.OK
}

func (n *Node) hearState(m api.Msg, _ api.Envelope, _ *work) api.Errno {
	s, err := checkpoint.Check(n.keys, n.config, m.State, m.Signs)
	if err != api.OK {
		return err
	}
	if s.Epoch <= n.now.state.Epoch || s.Epoch > n.config.Last {
		return api.OK
	}
	return n.enter(s, m.Signs)
}
