package node

import (
	"math"
	"slices"
	"testing"

	"raddle/api"
	"raddle/batch"
	"raddle/change"
	"raddle/epoch"
	"raddle/journal"
	"raddle/message"
	"raddle/quorum"
	"raddle/state"
	"raddle/window"
)

// place is where an honest node says one thing alone: a proposal of a slot, a vote of a kind, view and slot, a change of a leader's view, a mark of an epoch.
type place struct {
	node, msg, epoch, leader, view, slot, kind int
}

// sim is nodes whose net loses, doubles and turns about, whose power fails, and some of whom say what they like beside what they should.
type sim struct {
	*group
	below  func(n int) int
	faulty []int
	once   map[place]string
	order  []api.Request // all that was ever delivered, by its place
	asked  map[api.Request]int
	nums   []int // how many numbers each client has used
	met    map[string]int

	rough, lossy int // of a hundred: how often power fails where it may, how many packets are lost
}

// random is a row of numbers that look like chance, and are the same each time.
func random(seed int) func(n int) int {
	state := uint64(seed)*2654435761 + 12345
	return func(n int) int {
		state = state*6364136223846793005 + 1442695040888963407
		return int(state>>33) % n
	}
}

func newSim(w world, seed int, faulty []int, met map[string]int) *sim {
	return &sim{group: w.group(), below: random(seed), faulty: faulty, once: map[place]string{}, asked: map[api.Request]int{}, nums: make([]int, w.c.Clients), met: met, rough: seed % 4 * 30, lossy: seed % 5 % 3 * 20}
}

func (s *sim) isHonest(node int) bool {
	return !slices.Contains(s.faulty, node)
}

// spoke tests P25.7 of what a node said.
func (s *sim) spoke(from int, x api.Envelope) {
	m, err := message.Decode(x.Body)
	if err != api.OK || x.From != from || !s.k.Check(from, x.Body, x.Tag) {
		s.t.Fatalf("node %d says %x: %d", from, x.Body, int(err))
	}
	at := place{node: from, msg: m.Kind}
	switch m.Kind {
	case api.MsgPropose:
		at.epoch, at.slot = m.Epoch, m.Slot
	case api.MsgVote:
		at.epoch, at.view, at.slot, at.kind = m.Vote.Epoch, m.Vote.View, m.Vote.Slot, m.Vote.Kind
	case api.MsgChange:
		at.epoch, at.leader, at.view = m.Change.Epoch, m.Change.Leader, m.Change.View
	case api.MsgMark:
		at.epoch = m.Epoch
	default:
		return
	}
	if was, there := s.once[at]; there && was != x.Body {
		s.t.Fatalf("two unlike ones at %+v: %s", at, words([]string{was, x.Body}))
	}
	s.once[at] = x.Body
}

// went looks at what a call of a node did, and sends what it said.
func (s *sim) went(i int, out Out, err api.Errno) {
	n, c := s.nodes[i], s.c
	if err == api.ErrRoom || err == api.ErrLong {
		s.t.Fatalf("node %d: %d, with %d bytes of %d", i, int(err), s.tapes[i].Used(), Bound(c))
	}
	if err != api.OK && err != api.ErrEnd && !isNothing(out) {
		s.t.Fatalf("node %d: %d beside %v", i, int(err), out)
	}
	if n.Kept() > c.Nodes*c.Slots || n.Waiting() > c.Buckets*c.Cap || s.tapes[i].Used() > Bound(c) {
		s.t.Fatalf("node %d: %d kept, %d waiting, %d bytes", i, n.Kept(), n.Waiting(), s.tapes[i].Used())
	}
	if s.isHonest(i) {
		for _, x := range append(slices.Clone(out.All), out.Direct...) {
			s.spoke(i, x)
		}
		s.look(i)
	}
	s.send(i, out)
}

// look holds a node's log against the one order.
func (s *sim) look(i int) {
	n := s.nodes[i]
	log := n.Log()
	if n.Count() != n.State().Count+len(log) {
		s.t.Fatalf("node %d: count %d, of which %d and %d", i, n.Count(), n.State().Count, len(log))
	}
	for k, d := range log {
		if d.Index != n.State().Count+k+1 {
			s.t.Fatalf("node %d: index %d at place %d behind %d", i, d.Index, k, n.State().Count)
		}
		switch {
		case d.Index <= len(s.order):
			if s.order[d.Index-1] != d.Request {
				s.t.Fatalf("node %d delivers %v as number %d, another one %v", i, d.Request, d.Index, s.order[d.Index-1])
			}
		case d.Index > len(s.order)+1:
			s.t.Fatalf("node %d delivers number %d, and there are %d", i, d.Index, len(s.order))
		default:
			if s.asked[d.Request] == 0 {
				s.t.Fatalf("%v was not asked for", d.Request)
			}
			for _, was := range s.order {
				if was.Client == d.Request.Client && was.Num == d.Request.Num {
					s.t.Fatalf("%v is delivered twice", was)
				}
			}
			s.order = append(s.order, d.Request)
		}
	}
}

func (s *sim) tickOf(i int) {
	out, err := s.nodes[i].Tick()
	if (err == api.ErrEnd) != (s.nodes[i].Ended() && s.nodes[i].On()) {
		s.t.Fatalf("node %d has ended: %v, and ticks with %d", i, s.nodes[i].Ended(), int(err))
	}
	s.went(i, out, err)
}

// heard lets a node hear an envelope; of what is refused nothing may be seen.
func (s *sim) heard(i int, x api.Envelope) {
	n, t := s.nodes[i], s.tapes[i]
	looks := s.below(6) == 0
	var was string
	if looks {
		was = seen(n, t)
	}
	many, on := n.Rejects(), n.On()
	out, err := n.Hear(x)
	refused := err != api.OK && on && n.On()
	if got := n.Rejects() - many; (got == 1) != refused || got > 1 {
		s.t.Fatalf("node %d hears with %d, and counts %d", i, int(err), got)
	}
	if refused && looks && was != seen(n, t) {
		s.t.Fatalf("what is refused (%d) changes\n%s\ninto\n%s", int(err), was, seen(n, t))
	}
	if refused {
		s.met["refused"]++
	}
	s.went(i, out, err)
}

// start lets a node that is down begin again, and tests P25.8.
func (s *sim) start(i int) {
	was := s.nodes[i]
	if was.On() {
		return
	}
	s.tapes[i].Power()
	n := s.open(i, s.tapes[i])
	s.nodes[i] = n
	s.met["started"]++
	switch {
	case n.State().Epoch < was.State().Epoch:
		s.t.Fatalf("node %d was in epoch %d, and is in %d", i, was.State().Epoch, n.State().Epoch)
	case n.State().Epoch > was.State().Epoch:
		s.met["started later"]++
	default:
		if !state.Same(n.State(), was.State()) || !slices.Equal(n.Signs(), was.Signs()) {
			s.t.Fatalf("node %d has another state", i)
		}
		log, old := n.Log(), was.Log()
		if len(log) > len(old) || !slices.Equal(log, old[:len(log)]) {
			s.t.Fatalf("node %d had delivered %v, and has %v", i, old, log)
		}
		if len(log) < len(old) {
			s.met["started with less"]++
		}
	}
	if n.Count() < n.State().Count {
		s.t.Fatalf("node %d has %d of %d", i, n.Count(), n.State().Count)
	}
	if s.isHonest(i) {
		s.look(i)
	}
}

// ask submits a request to some nodes, or again one that was asked for.
func (s *sim) ask() {
	client := s.below(s.c.Clients)
	num := 1 + s.nums[client]
	if s.below(4) == 0 {
		num = 1 + s.below(num)
	} else {
		s.nums[client]++
	}
	r := s.request(client, num, "data")
	s.asked[r]++
	all := s.below(2) == 0
	for i := range s.nodes {
		if all || s.below(2) == 0 {
			s.submit(i, r)
		}
	}
}

func (s *sim) submit(i int, r api.Request) {
	if err := s.nodes[i].Submit(r); err == api.OK {
		s.met["submitted"]++
	}
	s.went(i, Out{}, api.OK)
}

// step does something. How rough it is differs from run to run.
func (s *sim) step() {
	i := s.below(len(s.nodes))
	switch x := s.below(100); {
	case x < 40:
		for range s.below(60) {
			s.hearNext()
		}
	case x < 43 && s.net.Len() > 0:
		s.net.Take(s.below(s.net.Len()))
	case x < 46 && s.net.Len() > 0:
		p, _ := s.net.Look(s.below(s.net.Len()))
		s.heard(p.To, p.X)
	case x < 49 && s.net.Sent() > 0:
		past, _ := s.net.Past(s.below(s.net.Sent()))
		s.heard(i, past)
	case x < 80:
		s.tickOf(i)
	case x < 84:
		s.ask()
	case x < 85 && s.below(100) < s.rough:
		s.tapes[i].Fail(s.below(600))
	case x < 87 && s.below(100) < s.rough:
		s.tapes[i].Arm(s.below(9), s.below(600)-50)
	case x < 92:
		s.start(i)
	case x < 93:
		s.pad(i)
	case len(s.faulty) > 0:
		s.lie(s.faulty[s.below(len(s.faulty))])
	}
}

// pad makes a node's journal so long that it is made short at the next record: with records that say nothing.
func (s *sim) pad(i int) {
	n := s.nodes[i]
	rec := s.rec(api.Rec{Kind: api.RecView, Leader: n.now.epoch.Leaders[0]})
	for range (Bound(s.c)/4-n.journal.Bytes())/len(journal.Frame('D', rec)) + 1 {
		if n.journal.Append(rec) != api.OK {
			return
		}
	}
	s.met["padded"]++
}

// hearNext lets the next packet be heard, or one from somewhere behind it, or loses it.
func (s *sim) hearNext() {
	many := s.net.Len()
	if many == 0 {
		return
	}
	k := 0
	if s.below(4) == 0 {
		k = s.below(many)
	}
	p, _ := s.net.Take(k)
	if s.below(100) >= s.lossy {
		s.heard(p.To, p.X)
	}
}

// lie lets a faulty node say something of its own to one node.
func (s *sim) lie(from int) {
	to := s.below(len(s.nodes))
	n := s.nodes[to]
	e := s.epoch(n.State())
	slots := epoch.End(e) - e.Start
	slot := e.Start + s.below(slots)
	var m api.Msg
	switch s.below(8) {
	case 0:
		m = api.Msg{Kind: api.MsgPropose, Epoch: e.Number, Slot: slot, Batch: s.someBatch()}
		if own := epoch.Slots(e, from); len(own) > 0 {
			m.Slot = own[s.below(len(own))]
		}
	case 1, 2, 3:
		m = api.Msg{Kind: api.MsgVote, Vote: s.vote(1+s.below(2), e.Number, s.below(3), slot, s.someBatch())}
	case 4:
		c := api.Change{Epoch: e.Number, Leader: e.Leaders[s.below(len(e.Leaders))], View: 1 + s.below(3)}
		c.Held = s.someHeld(e, c)
		m = api.Msg{Kind: api.MsgChange, Change: c}
	case 5:
		m = s.someNew(e, from)
	case 6:
		m = api.Msg{Kind: api.MsgMark, Epoch: e.Number, Digest: state.Digest(s.later(n.State()))}
	case 7:
		m = api.Msg{Kind: api.MsgStatus, Epoch: s.below(e.Number + 2), Slot: slot}
	}
	body, err := message.Encode(m)
	if err != api.OK {
		return
	}
	s.met["lies"]++
	s.net.Send(to, s.seal(from, body))
}

// someBatch is a batch of requests that were asked for, which may be too late, or another leader's.
func (s *sim) someBatch() api.Batch {
	switch s.below(4) {
	case 0:
		return batch.None()
	case 1:
		return api.Batch{}
	}
	client := s.below(s.c.Clients)
	if s.nums[client] == 0 {
		return api.Batch{}
	}
	return api.Batch{Requests: []api.Request{s.request(client, 1+s.below(s.nums[client]), "data")}}
}

// pastMsgs are some of the messages of a kind that were sent, each with its envelope.
func (s *sim) pastMsgs(kind int) (l []api.Msg, from []api.Envelope) {
	const back = 200
	for i := max(0, s.net.Sent()-back); i < s.net.Sent(); i++ {
		x, _ := s.net.Past(i)
		if m, err := message.Decode(x.Body); err == api.OK && m.Kind == kind {
			l, from = append(l, m), append(from, x)
		}
	}
	return l, from
}

// someHeld is what somebody else held, as far as it may stand in a change.
func (s *sim) someHeld(e epoch.Epoch, c api.Change) []api.Held {
	l, _ := s.pastMsgs(api.MsgChange)
	for _, m := range l {
		if m.Change.Leader == c.Leader && m.Change.View <= c.View && s.below(2) == 0 && change.Good(s.k, e, c) == api.OK {
			return m.Change.Held
		}
	}
	return nil
}

// someNew begins a view with changes that were sent, if there are enough.
func (s *sim) someNew(e epoch.Epoch, from int) api.Msg {
	l, sealed := s.pastMsgs(api.MsgChange)
	if len(l) == 0 {
		return api.Msg{}
	}
	asked := l[s.below(len(l))].Change
	m := api.Msg{Kind: api.MsgNew, Epoch: e.Number, Leader: asked.Leader, View: asked.View}
	for node := range s.nodes {
		for i, x := range sealed {
			if c := l[i].Change; x.From == node && c.Leader == asked.Leader && c.View == asked.View && len(m.News) < quorum.Most(s.c.Nodes) {
				m.News = append(m.News, x)
				break
			}
		}
	}
	return m
}

// settle lets all that honest nodes say come within a round, until a request that all took is delivered by all, or the last epoch is over.
func (s *sim) settle() {
	for i := range s.nodes {
		s.start(i)
		// In the place of any other plan.
		s.tapes[i].Arm(math.MaxInt, 0)
	}
	var last []api.Request
	for client := range s.c.Clients {
		// The first number that was not delivered to anybody: all may take it, if nothing else fills its bucket.
		num := 1
		w := window.New()
		for _, r := range s.order {
			if r.Client == client {
				w, _ = window.Mark(w, r.Num)
			}
		}
		for window.Done(w, num) {
			num++
		}
		r := s.request(client, num, "data")
		s.asked[r]++
		last = append(last, r)
		for i := range s.nodes {
			s.submit(i, r)
		}
	}
	e := (quorum.Faults(s.c.Nodes)+3)*(s.c.Timeout+6) + 12
	p := (s.c.Cap + s.c.Requests*s.c.Slots - 1) / (s.c.Requests * s.c.Slots)
	for range e*(s.c.Nodes+s.c.Penalty+2)*p + e {
		if s.isOver(last) {
			return
		}
		s.round()
	}
	for i, n := range s.nodes {
		s.t.Errorf("node %d: epoch %d, next %d, count %d of %d, views %v, ended %v", i, n.State().Epoch, n.Next(), n.Count(), len(s.order), n.Views(), n.Ended())
	}
	s.t.Fatalf("nothing goes on")
}

// round is the cluster's: all that is on its way is heard, and each node ticks. A faulty node may be silent.
func (s *sim) round() {
	for range s.net.Len() {
		p, _ := s.net.Take(0)
		if s.isHonest(p.To) && s.isHonest(p.X.From) {
			s.heard(p.To, p.X)
		}
	}
	for i := range s.nodes {
		if s.isHonest(i) {
			s.tickOf(i)
		}
	}
}

// isOver tells whether all honest nodes have delivered those requests, or ended.
func (s *sim) isOver(last []api.Request) bool {
	for i, n := range s.nodes {
		if !s.isHonest(i) || n.Ended() {
			continue
		}
		for _, r := range last {
			if !window.Done(n.now.ledger.Clients()[r.Client], r.Num) {
				return false
			}
		}
	}
	return true
}

// P25.7 to P25.10, and that it goes on behind whatever was.

func TestWhateverHappens(t *testing.T) {
	met := map[string]int{}
	run := func(c api.Config, seeds, steps int, faulty ...int) {
		for seed := range seeds {
			s := newSim(worldOf(t, c), seed, faulty, met)
			for range steps {
				s.step()
			}
			met["delivered"] += len(s.order)
			s.settle()
			for i, n := range s.nodes {
				if s.isHonest(i) {
					met["epochs"] += n.State().Epoch
					for _, v := range n.Views() {
						met["views"] += v
					}
				}
			}
			if t.Failed() {
				t.Fatalf("seed %d", seed)
			}
		}
	}
	c := config()
	c.Last = 100
	run(c, 12, 2000)
	run(c, 12, 2000, 2)
	c.Slots, c.Requests, c.Penalty = 1, 1, 0
	run(c, 12, 2000, 0)
	c.Last = 2
	run(c, 6, 1000, 3)
	c.Nodes, c.Buckets, c.Last = 7, 5, 100
	run(c, 3, 4000, 1, 4)
	for _, what := range []string{"refused", "started", "started later", "started with less", "submitted", "lies", "padded", "delivered", "epochs"} {
		if met[what] == 0 {
			t.Errorf("never met: %s", what)
		}
	}
	t.Log(met)
}
