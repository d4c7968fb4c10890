package node

import (
	"raddle/api"
	"raddle/envelope"
	"raddle/message"
	"raddle/record"
)

// work is what a call comes to: what it says to all, and to one, and what it delivered.
type work struct {
	all, direct []string
	to          int
	delivered   []api.Delivered
}

// take does all that follows from what a segment said.
func (n *Node) take(said api.Said, w *work) api.Errno {
	err := n.keep(said.Recs)
	// Even if that failed: some of the records may be found again, and what is found then was delivered.
	n.deliver(said.Recs, w)
	if err != api.OK {
		return n.stick(err)
	}
	w.all = append(w.all, said.Bodies...)
	return n.closeEpoch(w)
}

// keep appends records to the journal, which is made short ahead of that, if it is long.
func (n *Node) keep(recs []api.Rec) api.Errno {
	if len(recs) > 0 && n.journal.Bytes() > Bound(n.config)/4 {
		// The segments may have in them already what is appended then: they load the same record twice alike.
		if err := n.lay(n.enough()); err != api.OK {
			return err
		}
	}
	for _, r := range recs {
		b, err := record.Encode(r)
		if err != api.OK {
			return err
		}
		if err := n.journal.Append(b); err != api.OK {
			return err
		}
	}
	return api.OK
}

// enough tells records of which the node comes back as it is.
func (n *Node) enough() []api.Rec {
	out := n.now.record()
	for _, s := range n.now.inOrder() {
		out = append(out, s.Recs()...)
	}
	return out
}

// lay lays the journal anew.
func (n *Node) lay(recs []api.Rec) api.Errno {
	var l [][]byte
	for _, r := range recs {
		b, err := record.Encode(r)
		if err != api.OK {
			return err
		}
		l = append(l, b)
	}
	return n.journal.Lay(l)
}

// deliver puts the entries among records into the ledger.
func (n *Node) deliver(recs []api.Rec, w *work) {
	for _, r := range recs {
		if r.Kind != api.RecEntry {
			continue
		}
		// Nothing is refused: a segment decides slots of its own, and each once.
		l, _ := n.now.ledger.Put(api.Entry{Slot: r.Cert.Vote.Slot, Batch: r.Batch, Cert: r.Cert})
		n.now.log = append(n.now.log, l...)
		w.delivered = append(w.delivered, l...)
		n.pool.Sweep(n.now.ledger.Clients())
	}
}

// goOut makes sure all that was kept, if there is something to say, and signs that.
func (n *Node) goOut(w *work) (Out, api.Errno) {
	if len(w.all)+len(w.direct) > 0 && !n.journal.Sure() {
		if err := n.journal.Sync(); err != api.OK {
			return Out{}, n.stick(err)
		}
	}
	all, err := n.sealed(w.all)
	if err != api.OK {
		return Out{}, n.stick(err)
	}
	direct, err := n.sealed(w.direct)
	if err != api.OK {
		return Out{}, n.stick(err)
	}
	return Out{All: all, Direct: direct, To: w.to, Delivered: w.delivered}, api.OK
}

// sealed signs bodies.
func (n *Node) sealed(bodies []string) ([]api.Envelope, api.Errno) {
	var out []api.Envelope
	for _, body := range bodies {
		x, err := envelope.Seal(n.keys, n.me, body)
		if err != api.OK {
			return nil, err
		}
		out = append(out, x)
	}
	return out, api.OK
}

// tell lays a message's bytes behind others. One that may not be has none, and is not told.
func tell(bodies []string, m api.Msg) []string {
	body, err := message.Encode(m)
	if err != api.OK {
		return bodies
	}
	return append(bodies, body)
}
