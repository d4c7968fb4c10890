package node

import (
	"raddle/api"
	"raddle/leaders"
	"raddle/window"
)

// Tick lets time go on.
func (n *Node) Tick() (out Out, err api.Errno) {
	if err := n.silent(); err != api.OK {
		return Out{}, err
	}
	var w work
	defer func() {
		if err == api.OK {
			out, err = n.goOut(&w)
		}
		// Behind the last epoch there is nothing to come, but others may still ask.
		if err == api.OK && n.now.ended {
			err = api.ErrEnd
		}
	}()
	return Out{}, n.tick(&w)
}

func (n *Node) tick(w *work) api.Errno {
	if err := n.propose(w); err != api.OK {
		return err
	}
	for _, s := range n.now.inOrder() {
		if err := n.take(s.Tick(), w); err != api.OK {
			return err
		}
	}
	n.sayAgain(w)
	return api.OK
}

// propose proposes a batch, if me leads and has a slot left for it.
func (n *Node) propose(w *work) api.Errno {
	own, leads := n.now.segments[n.me]
	if !leads || n.now.ended || own.Next() == 0 {
		return api.OK
	}
	said, err := own.Propose(api.Batch{Requests: n.pick(own.Batches())})
	if err != api.OK {
		// What was picked may be proposed; if not, the slot waits.
		return api.OK
	}
	return n.take(said, w)
}

// pick tells the requests that me may propose, the first so many as a batch has room for.
func (n *Node) pick(busy []api.Batch) []api.Request {
	c := n.config
	own := leaders.Buckets(c, n.now.epoch.Number, n.now.epoch.Leaders, n.me)
	var out []api.Request
	for _, r := range n.pool.Pick(own, c.Buckets*c.Cap, busy) {
		// All nodes hold a proposal against the windows with which the epoch began; those of the ledger, by which it was let in, may be ahead.
		if len(out) < c.Requests && window.Ask(n.now.state.Clients[r.Client], c.Window, r.Num) == api.OK {
			out = append(out, r)
		}
	}
	return out
}

// sayAgain says what others may have missed.
func (n *Node) sayAgain(w *work) {
	for _, s := range n.now.inOrder() {
		w.all = append(w.all, s.Again()...)
	}
	if n.now.marked {
		w.all = append(w.all, n.now.mark())
	}
	w.all = tell(w.all, api.Msg{Kind: api.MsgStatus, Epoch: n.now.state.Epoch, Slot: n.now.ledger.Next()})
}
