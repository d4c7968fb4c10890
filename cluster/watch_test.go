package cluster

import (
	"slices"
	"testing"

	"raddle/api"
	"raddle/envelope"
	"raddle/message"
	"raddle/node"
	"raddle/quorum"
	"raddle/request"
	"raddle/state"
)

// place is where an honest node says one thing alone: a proposal of a slot, a vote of a kind, view and slot, a change of a leader's view, a mark of an epoch.
type place struct {
	node, msg, epoch, leader, view, slot, kind int
}

// watch is a cluster whose every step is looked at: by it the promises of the whole are held against what happens.
type watch struct {
	*world
	below func(n int) int
	met   map[string]int
	acts  []Act

	order  []api.Request // all that was ever delivered, by its place
	pairs  map[pair]int
	chains map[int]api.Digest // by the next slot
	asked  map[api.Request]int

	looked int // how many of the envelopes that were sent were looked at
	once   map[place]string
	known  map[envelope.Claim]int
}

func watched(t testing.TB, c Conf, seed int, met map[string]int) *watch {
	t.Helper()
	return &watch{world: begun(t, c), below: random(seed), met: met, pairs: map[pair]int{}, chains: map[int]api.Digest{}, asked: map[api.Request]int{}, once: map[place]string{}, known: map[envelope.Claim]int{}}
}

// act does an act, and looks at what came of it.
func (w *watch) act(a Act) api.Errno {
	w.t.Helper()
	w.acts = append(w.acts, a)
	var ahead *node.Node
	if a.Kind == Start && w.isNode(a.Node) {
		ahead = w.machines[a.Node].node
	}
	if a.Kind == Submit {
		w.submits(a)
	}
	err := w.Do(a)
	if a.Kind == Start && err == api.OK {
		w.started(a.Node, ahead)
	}
	if err == api.ErrRoom || a.Kind == Round && err != api.OK {
		w.t.Fatalf("%+v: %d", a, int(err))
	}
	w.lookAtPast()
	for i := range w.config.Nodes {
		w.lookAt(i)
	}
	return err
}

// submits keeps what a client asks for, if it may.
func (w *watch) submits(a Act) {
	r, err := request.Make(w.k, w.config.Nodes, a.N, a.M, a.Data)
	if err != api.OK || !w.isNode(a.Node) || a.N >= w.config.Clients {
		return
	}
	if was, there := w.Submitted(a.N, a.M); there && was != a.Data && w.isHonest(w.config.Nodes+a.N) {
		return
	}
	w.asked[r]++
	w.known[envelope.Claim{ID: w.config.Nodes + r.Client, Body: request.Body(r), Tag: r.Tag}]++
}

// lookAt holds a node against W1, W2 and W5.
func (w *watch) lookAt(i int) {
	w.t.Helper()
	c := w.config
	waiting, kept, used, _ := w.Sizes(i)
	if kept > c.Nodes*c.Slots || waiting > c.Buckets*c.Cap || used > node.Bound(c) {
		w.t.Fatalf("node %d: %d kept, %d waiting, %d bytes", i, kept, waiting, used)
	}
	log, count, begin := w.machines[i].log, w.Count(i), w.State(i).Count
	if w.On(i) {
		if own := count - begin; own < 0 || len(log) < own || own > 0 && log[len(log)-own].Index != begin+1 || len(log) > 0 && log[len(log)-1].Index > count {
			w.t.Fatalf("node %d: count %d, of which %d ahead of the epoch, and %v", i, count, begin, log)
		}
		if was, there := w.chains[w.Next(i)]; there && was != w.Chain(i) {
			w.t.Fatalf("node %d has another chain at slot %d", i, w.Next(i))
		}
		w.chains[w.Next(i)] = w.Chain(i)
	}
	last := 0
	for _, d := range log {
		if d.Index <= last {
			w.t.Fatalf("node %d: %v", i, log)
		}
		last = d.Index
		w.delivered(i, d)
	}
}

// delivered holds what a node delivered against the one order. Faulty nodes run as the others do: the order is theirs, too.
func (w *watch) delivered(i int, d api.Delivered) {
	w.t.Helper()
	switch {
	case d.Index > len(w.order)+1:
		w.t.Fatalf("node %d delivers number %d, and there are %d", i, d.Index, len(w.order))
	case d.Index <= len(w.order):
		if w.order[d.Index-1] != d.Request {
			w.t.Fatalf("node %d delivers %v as number %d, another one %v", i, d.Request, d.Index, w.order[d.Index-1])
		}
		return
	}
	r := d.Request
	if request.Good(w.k, w.config.Nodes, w.config.Clients, r) != api.OK {
		w.t.Fatalf("%v has not its client's tag", r)
	}
	if w.asked[r] == 0 && w.isHonest(w.config.Nodes+r.Client) {
		w.t.Fatalf("%v was not submitted", r)
	}
	if w.pairs[pair{r.Client, r.Num}] > 0 {
		w.t.Fatalf("%v is delivered twice", r)
	}
	w.pairs[pair{r.Client, r.Num}]++
	w.order = append(w.order, r)
}

// started holds a node that started again against W3.
func (w *watch) started(i int, was *node.Node) {
	w.t.Helper()
	w.met["started"]++
	now := w.State(i)
	switch {
	case now.Epoch < was.State().Epoch:
		w.t.Fatalf("node %d was in epoch %d, and is in %d", i, was.State().Epoch, now.Epoch)
	case now.Epoch > was.State().Epoch:
		w.met["started later"]++
	default:
		if !state.Same(now, was.State()) {
			w.t.Fatalf("node %d has another state", i)
		}
		log, old := w.machines[i].node.Log(), was.Log()
		if len(log) > len(old) || !slices.Equal(log, old[:len(log)]) {
			w.t.Fatalf("node %d had delivered %v, and has %v", i, old, log)
		}
	}
	if w.Count(i) < now.Count {
		w.t.Fatalf("node %d has %d of %d", i, w.Count(i), now.Count)
	}
	if w.Count(i) < was.Count() {
		w.met["started with less"]++
	}
}

// lookAtPast holds all that was sent since against W3 and P27.5.
func (w *watch) lookAtPast() {
	w.t.Helper()
	for ; w.looked < w.Sent(); w.looked++ {
		x, err := w.Past(w.looked)
		if err != api.OK || !w.k.Check(x.From, x.Body, x.Tag) {
			w.t.Fatalf("%+v: %d", x, int(err))
		}
		w.spoken(x)
		w.known[envelope.Claim{ID: x.From, Body: x.Body, Tag: x.Tag}]++
		for _, claim := range w.claims(x.Body) {
			// What a sender says of itself it has made, whether it has been heard of or not: power may have failed ahead of that.
			if w.isHonest(claim.ID) && claim.ID != x.From && w.known[claim] == 0 && w.k.Check(claim.ID, claim.Body, claim.Tag) {
				w.t.Fatalf("node %d says what %d has not said: %+v", x.From, claim.ID, claim)
			}
			w.known[claim]++
		}
	}
}

func (w *watch) spoken(x api.Envelope) {
	w.t.Helper()
	if !w.Honest(x.From) {
		return
	}
	m, err := message.Decode(x.Body)
	if err != api.OK {
		w.t.Fatalf("node %d says %x: %d", x.From, x.Body, int(err))
	}
	at := place{node: x.From, msg: m.Kind}
	switch m.Kind {
	case api.MsgPropose:
		at.epoch, at.slot = m.Epoch, m.Slot
	case api.MsgVote:
		at.epoch, at.view, at.slot, at.kind = m.Vote.Epoch, m.Vote.View, m.Vote.Slot, m.Vote.Kind
	case api.MsgChange:
		at.epoch, at.leader, at.view = m.Change.Epoch, m.Change.Leader, m.Change.View
	case api.MsgMark:
		at.epoch = m.Epoch
	default:
		return
	}
	if was, there := w.once[at]; there && was != x.Body {
		w.t.Fatalf("two unlike ones at %+v", at)
	}
	w.once[at] = x.Body
}

// again tests W6: what is done twice comes to the same.
func (w *watch) again(c Conf) {
	w.t.Helper()
	other := begun(w.t, c)
	for _, a := range w.acts {
		other.Do(a)
	}
	if other.seen() != w.seen() {
		w.t.Fatal("what is done twice comes to unlike things")
	}
	for i := range w.Sent() {
		x, _ := w.Past(i)
		if y, _ := other.Past(i); x != y {
			w.t.Fatalf("envelope %d: %+v, and %+v", i, x, y)
		}
	}
}

// epochRounds is how many rounds an epoch may take.
func epochRounds(c api.Config) int {
	return (quorum.Faults(c.Nodes)+3)*(c.Timeout+6) + 12
}
