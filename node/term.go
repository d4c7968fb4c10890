package node

import (
	"raddle/api"
	"raddle/epoch"
	"raddle/ledger"
	"raddle/message"
	"raddle/quorum"
	"raddle/seal"
	"raddle/segment"
	"raddle/state"
)

// term is what a node has of the epoch in which it is.
type term struct {
	state    api.State
	signs    []api.Sign
	epoch    epoch.Epoch
	ledger   *ledger.Ledger
	segments map[int]*segment.Segment // by their leaders
	log      []api.Delivered

	// Once me has marked the epoch: the state that comes after it, and that one's digest.
	marked bool
	after  api.State
	digest api.Digest

	ended bool
}

// newTerm begins the epoch of a state; an error, if there is no such epoch.
func newTerm(c api.Config, k *seal.Keys, me int, s api.State, signs []api.Sign) (term, api.Errno) {
	e, err := state.Epoch(c, s)
	if err != api.OK {
		return term{}, err
	}
	l, err := state.Ledger(c, s)
	if err != api.OK {
		return term{}, err
	}
	t := term{state: s, signs: signs, epoch: e, ledger: l, segments: map[int]*segment.Segment{}}
	for _, leader := range e.Leaders {
		t.segments[leader], err = segment.New(k, e, me, leader, s.Clients)
		if err != api.OK {
			return term{}, err
		}
	}
	return t, api.OK
}

// inOrder tells the segments in the leaders' order.
func (t *term) inOrder() []*segment.Segment {
	var out []*segment.Segment
	for _, leader := range t.epoch.Leaders {
		out = append(out, t.segments[leader])
	}
	return out
}

// record tells the record of the state; none in the first epoch, whose state nobody signed.
func (t *term) record() []api.Rec {
	if t.state.Epoch == 1 {
		return nil
	}
	return []api.Rec{{Kind: api.RecState, State: state.Bytes(t.state), Signs: t.signs}}
}

// mark tells the bytes of me's mark, once it has marked.
func (t *term) mark() string {
	return message.Mark(t.state.Epoch, t.digest)
}

// closeEpoch marks the epoch's end, if all its slots are delivered, and goes on to the next one, if a quorum marked the same.
func (n *Node) closeEpoch(w *work) api.Errno {
	if !n.now.marked && n.now.ledger.Done() {
		n.markEpoch(w)
	}
	if !n.now.marked {
		return api.OK
	}
	signs := n.marks.Signs(n.now.state.Epoch, n.now.digest, quorum.Most(n.config.Nodes))
	switch {
	case len(signs) == 0:
	case n.now.after.Epoch > n.config.Last:
		n.now.ended = true
	default:
		// If there is no such epoch, the node stays where it is: just what sticks it is this call's error.
		n.enter(n.now.after, signs)
	}
	return n.stuck
}

// markEpoch signs the state that comes after the epoch. Of one that may not be there is nothing to sign.
func (n *Node) markEpoch(w *work) {
	after, err := state.After(n.config, n.now.state, n.now.ledger)
	if err != api.OK {
		return
	}
	n.now.marked, n.now.after, n.now.digest = true, after, state.Digest(after)
	body := n.now.mark()
	w.all = append(w.all, body)
	tag, _ := n.keys.Sign(n.me, body)
	// Nothing is refused: me's marks are of epochs that rise, each marked once.
	n.marks.Add(n.me, n.now.state.Epoch, n.now.digest, tag)
}

// enter begins the epoch of a state that a quorum signed. The journal goes first: what is said in the epoch is said by who finds it again.
func (n *Node) enter(s api.State, signs []api.Sign) api.Errno {
	next, err := newTerm(n.config, n.keys, n.me, s, signs)
	if err != api.OK {
		return err
	}
	if err := n.lay(next.record()); err != api.OK {
		return n.stick(err)
	}
	n.now = next
	n.pool.Sweep(s.Clients)
	return api.OK
}
