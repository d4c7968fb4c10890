package segment

import (
	"slices"
	"testing"

	"raddle/api"
	"raddle/batch"
	"raddle/change"
	"raddle/envelope"
	"raddle/epoch"
	"raddle/message"
	"raddle/quorum"
	"raddle/window"
)

// packet is a body on its way.
type packet struct {
	from, to int
	body     string
}

// place is where a node says one thing alone: a vote of a kind, view and slot, a proposal of a slot, a change to a view.
type place struct {
	node, msg, kind, view, slot int
}

// sim is all nodes of a segment, with a net that loses, doubles and turns about, and faulty nodes that say what they like.
type sim struct {
	world
	below  func(n int) int
	nodes  []*Segment  // nil, where a node is faulty
	kept   [][]api.Rec // what each node has in its journal
	net    []packet
	once   map[place]string
	signs  map[api.Vote]map[int]api.Tag  // all votes that were signed
	moves  map[int]map[int][]string      // all changes that were signed, by view and node
	first  map[int]map[api.Digest]int    // what honest nodes accepted in view 0, by slot
	ever   map[int]map[api.Digest]string // what was decided, by slot
	tricks []api.Batch                   // what faulty nodes speak of
	met    map[string]int
}

// random is a row of numbers that look like chance, and are the same each time.
func random(seed int) func(n int) int {
	state := uint32(seed)*2654435761 + 12345
	return func(n int) int {
		state = state*1664525 + 1013904223
		return int(state>>16) % n
	}
}

func newSim(t testing.TB, c api.Config, seed int, faulty []int, met map[string]int) *sim {
	t.Helper()
	// Each leader has a bucket, and requests of it within the window.
	c.Buckets, c.Window = c.Nodes, api.MaxWindow
	s := &sim{world: worldOf(t, c), below: random(seed), kept: make([][]api.Rec, c.Nodes), met: met}
	s.once, s.signs, s.moves = map[place]string{}, map[api.Vote]map[int]api.Tag{}, map[int]map[int][]string{}
	s.first, s.ever = map[int]map[api.Digest]int{}, map[int]map[api.Digest]string{}
	for i := range c.Nodes {
		s.nodes = append(s.nodes, nil)
		if !slices.Contains(faulty, i) {
			s.nodes[i] = s.node(i)
		}
	}
	s.tricks = []api.Batch{s.asks(0), s.asks(1, 2), s.asks(2), {}, batch.None()}
	return s
}

func (s *sim) honest() []int {
	var out []int
	for i, x := range s.nodes {
		if x != nil {
			out = append(out, i)
		}
	}
	return out
}

func (s *sim) faulty() []int {
	var out []int
	for i, x := range s.nodes {
		if x == nil {
			out = append(out, i)
		}
	}
	return out
}

func (s *sim) slot() int {
	l := epoch.Slots(s.e, s.leader)
	return l[s.below(len(l))]
}

// spoke notes what a node signed, and tests P20.9 of an honest one.
func (s *sim) spoke(from int, body string) {
	m, err := message.Decode(body)
	if err != api.OK {
		s.t.Fatalf("node %d says %x: %d", from, body, int(err))
	}
	var at place
	switch m.Kind {
	case api.MsgPropose:
		at = place{from, m.Kind, 0, 0, m.Slot}
	case api.MsgVote:
		at = place{from, m.Kind, m.Vote.Kind, m.Vote.View, m.Vote.Slot}
		if s.signs[m.Vote] == nil {
			s.signs[m.Vote] = map[int]api.Tag{}
		}
		s.signs[m.Vote][from] = s.seal(from, body).Tag
	case api.MsgChange:
		at = place{from, m.Kind, 0, m.Change.View, 0}
		if s.moves[m.Change.View] == nil {
			s.moves[m.Change.View] = map[int][]string{}
		}
		if l := s.moves[m.Change.View][from]; !slices.Contains(l, body) {
			s.moves[m.Change.View][from] = append(l, body)
		}
	default:
		return
	}
	if was, there := s.once[at]; s.nodes[from] != nil && there && was != body {
		s.t.Fatalf("node %d says two things: %x and %x", from, was, body)
	}
	s.once[at] = body
}

// out is what an honest node does with what its segment said: it keeps the records, and says the bodies to all.
func (s *sim) out(i int, said api.Said) {
	for _, r := range said.Recs {
		s.kept[i] = append(s.kept[i], r)
		s.keeps(i, r)
	}
	s.say(i, said.Bodies)
}

func (s *sim) say(i int, bodies []string) {
	for _, body := range bodies {
		s.spoke(i, body)
		for to := range s.nodes {
			if to != i {
				s.net = append(s.net, packet{i, to, body})
			}
		}
	}
}

// keeps tests P20.8 and P20.11 of a record of an honest node.
func (s *sim) keeps(i int, r api.Rec) {
	c := s.e.Config
	d := batch.Digest(r.Batch)
	switch r.Kind {
	case api.RecAccept:
		if r.View > 0 {
			return
		}
		if r.Batch.Noop || batch.Good(s.k, c.Nodes, c.Clients, c.Requests, r.Batch) != api.OK {
			s.t.Fatalf("node %d accepts %v", i, r.Batch)
		}
		for _, x := range r.Batch.Requests {
			if epoch.Bucket(s.e, x.Client, x.Num) != s.leader || window.Ask(s.clients[x.Client], c.Window, x.Num) != api.OK {
				s.t.Fatalf("node %d accepts %v", i, r.Batch)
			}
		}
		if s.first[r.Slot] == nil {
			s.first[r.Slot] = map[api.Digest]int{}
		}
		s.first[r.Slot][d]++
	case api.RecEntry:
		slot := r.Cert.Vote.Slot
		if s.ever[slot] == nil {
			s.ever[slot] = map[api.Digest]string{}
		}
		s.ever[slot][d] = string(batch.Put(nil, r.Batch))
		s.decided(slot, r)
	}
}

// decided tests a decision against all that was decided.
func (s *sim) decided(slot int, r api.Rec) {
	if len(s.ever[slot]) > 1 {
		s.t.Fatalf("slot %d is decided in two ways", slot)
	}
	if err := change.Cert(s.k, s.e, api.Commit, r.Batch, r.Cert); err != api.OK {
		s.t.Fatalf("slot %d is decided by %v: %d", slot, r.Cert, int(err))
	}
	if !batch.Same(r.Batch, batch.None()) && s.first[slot][batch.Digest(r.Batch)] == 0 {
		s.t.Fatalf("slot %d is decided as what nobody accepted: %v", slot, r.Batch)
	}
	for _, i := range s.honest() {
		for _, other := range epoch.Slots(s.e, s.leader) {
			if x, there := s.nodes[i].Entry(other); there && other != slot && batch.Meet(x.Batch, r.Batch) {
				s.t.Fatalf("slots %d and %d have a pair in common", slot, other)
			}
		}
	}
	switch {
	case r.Cert.Vote.View == 0:
		s.met["decided in view 0"]++
	case r.Batch.Noop:
		s.met["decided as nothing"]++
	default:
		s.met["taken along, and decided"]++
	}
}

// hear lets a packet come in. Honest nodes hear what was sealed alone; what they refuse changes nothing.
func (s *sim) hear(p packet) {
	x := s.nodes[p.to]
	if x == nil {
		return
	}
	sealed := s.seal(p.from, p.body)
	m, err := envelope.Open(s.k, s.e.Config.Nodes, sealed)
	if err != api.OK {
		s.t.Fatalf("%x: %d", p.body, int(err))
	}
	before := look(x)
	said, err := x.Hear(m, sealed)
	if err != api.OK && (len(said.Recs)+len(said.Bodies) > 0 || !before.same(look(x))) {
		s.t.Fatalf("refused with %d, and said %v", int(err), said)
	}
	s.out(p.to, said)
}

func (s *sim) propose() {
	x := s.nodes[s.leader]
	if x == nil || x.Next() == 0 {
		return
	}
	// Some are refused: the other slot has one of them.
	if said, err := x.Propose(s.tricks[s.below(len(s.tricks))]); err == api.OK {
		s.out(s.leader, said)
	}
}

// restart is a power failure: a new segment takes what was kept, or what is enough of it.
func (s *sim) restart(i int) {
	was := s.nodes[i]
	if s.below(2) == 0 {
		s.kept[i] = was.Recs()
	}
	s.nodes[i] = s.loads(i, s.kept[i])
	s.cameBack("a failure", was, s.nodes[i])
	s.met["failures"]++
}

// step is one thing that may happen.
func (s *sim) step() {
	all := s.honest()
	i := all[s.below(len(all))]
	switch x := s.below(20); {
	case x < 11 && len(s.net) > 0:
		at := s.below(len(s.net))
		p := s.net[at]
		if s.below(8) > 0 {
			s.net[at] = s.net[len(s.net)-1]
			s.net = s.net[:len(s.net)-1]
		}
		if s.below(10) > 0 {
			s.hear(p)
		}
	case x < 14:
		s.out(i, s.nodes[i].Tick())
	case x < 15:
		s.say(i, s.nodes[i].Again())
	case x < 16:
		s.propose()
	case x < 17:
		s.restart(i)
	default:
		s.lie()
	}
}

// lie lets a faulty node say something to one node.
func (s *sim) lie() {
	all := s.faulty()
	if len(all) == 0 {
		return
	}
	from, to := all[s.below(len(all))], s.below(len(s.nodes))
	body := ""
	switch s.below(6) {
	case 0, 1:
		b := s.tricks[s.below(len(s.tricks))]
		body = message.Vote(s.vote(1+s.below(2), s.below(4), s.slot(), b))
	case 2:
		body = s.lieOfChange()
	case 3:
		body = s.lieOfNews(from)
	case 4:
		body = s.someEntry()
	}
	if body == "" && from == s.leader {
		body = s.world.propose(s.slot(), s.tricks[s.below(len(s.tricks))])
	}
	if body != "" && from != to {
		s.spoke(from, body)
		s.net = append(s.net, packet{from, to, body})
	}
}

// someCert is a cert of a kind, of a slot, below a view, out of all that was signed; the faulty nodes sign whatever helps.
func (s *sim) someCert(kind, slot, view int) (api.Held, bool) {
	var found []api.Held
	for _, b := range s.tricks {
		for v := range view {
			x := s.vote(kind, v, slot, b)
			c := api.Cert{Vote: x}
			for node := range s.nodes {
				tag, signed := s.signs[x][node]
				if s.nodes[node] == nil {
					tag, signed = s.seal(node, message.Vote(x)).Tag, true
				}
				if signed {
					c.Signs = quorum.Add(c.Signs, api.Sign{Node: node, Tag: tag})
				}
			}
			if len(c.Signs) >= quorum.Most(len(s.nodes)) {
				found = append(found, api.Held{Batch: b, Cert: c})
			}
		}
	}
	if len(found) == 0 {
		return api.Held{}, false
	}
	return found[s.below(len(found))], true
}

func (s *sim) lieOfChange() string {
	view := 1 + s.below(4)
	var l []api.Held
	for _, slot := range epoch.Slots(s.e, s.leader) {
		if h, there := s.someCert(api.Prepare, slot, view); there && s.below(2) > 0 {
			l = append(l, h)
		}
	}
	return s.change(view, l...)
}

// lieOfNews begins a view that the node leads with some quorum of changes, out of all that were signed.
func (s *sim) lieOfNews(from int) string {
	view := 1 + s.below(4)
	if s.primary(view) != from {
		return ""
	}
	var news []api.Envelope
	for node := range s.nodes {
		l := s.moves[view][node]
		if s.nodes[node] == nil && len(l) == 0 {
			l = []string{s.change(view)}
		}
		if len(l) > 0 && s.below(8) > 0 {
			news = append(news, s.seal(node, l[s.below(len(l))]))
		}
	}
	if len(news) >= quorum.Most(len(s.nodes)) {
		s.met["lies of news"]++
	}
	return s.bytes(api.Msg{Kind: api.MsgNew, Epoch: s.e.Number, Leader: s.leader, View: view, News: news})
}

func (s *sim) someEntry() string {
	h, there := s.someCert(api.Commit, s.slot(), 4)
	if !there {
		return ""
	}
	s.met["entries told"]++
	return s.bytes(api.Msg{Kind: api.MsgEntry, Batch: h.Batch, Cert: h.Cert})
}

// round lets all that is on its way come to honest nodes; then each ticks, and says again what it has to. Who lacks an entry is told it, as a node's status brings about.
func (s *sim) round(lies int) {
	l := s.net
	s.net = nil
	for _, p := range l {
		s.hear(p)
	}
	for _, i := range s.honest() {
		s.out(i, s.nodes[i].Tick())
		s.say(i, s.nodes[i].Again())
	}
	for _, i := range s.honest() {
		for _, slot := range epoch.Slots(s.e, s.leader) {
			if x, there := s.nodes[i].Entry(slot); there {
				s.tellEntry(i, slot, x)
			}
		}
	}
	for range lies {
		s.lie()
	}
}

func (s *sim) tellEntry(i, slot int, x api.Entry) {
	for _, to := range s.honest() {
		if _, there := s.nodes[to].Entry(slot); !there {
			s.net = append(s.net, packet{i, to, s.bytes(api.Msg{Kind: api.MsgEntry, Batch: x.Batch, Cert: x.Cert})})
		}
	}
}

// done tells whether all honest nodes have decided all.
func (s *sim) done() bool {
	return !slices.ContainsFunc(s.honest(), func(i int) bool { return s.nodes[i].Open() > 0 })
}

// runs tells behind how many rounds all is decided; it fails behind the most.
func (s *sim) runs(name string, most, lies int) int {
	s.t.Helper()
	for i := range most + 1 {
		if s.done() {
			return i
		}
		s.round(lies)
	}
	if !s.done() {
		s.t.Fatalf("%s: it is not decided behind %d rounds", name, most)
	}
	return most
}

// bound is how many rounds P20.10 promises.
func bound(c api.Config) int {
	return (quorum.Faults(c.Nodes) + 3) * (c.Timeout + 6)
}

// The chapter's example.

func TestExample(t *testing.T) {
	for slots := 1; slots <= api.MaxSlots; slots++ {
		c := config()
		c.Slots = slots
		s := newSim(t, c, 1, nil, map[string]int{})
		for i := range slots {
			said, err := s.nodes[1].Propose(s.asks(i))
			if err != api.OK {
				t.Fatal(int(err))
			}
			s.out(1, said)
		}
		if n := s.runs("four honest nodes", 3, 0); n != 3 {
			t.Errorf("decided behind %d rounds", n)
		}
		for i := range 4 {
			for place, slot := range []int{10, 14, 18, 22}[:slots] {
				if x, there := s.nodes[i].Entry(slot); !there || !batch.Same(x.Batch, s.asks(place)) {
					t.Errorf("node %d, slot %d: %v", i, slot, x)
				}
			}
		}
	}
}

// P20.8, P20.9, P20.11: whatever happens. Then, from whatever state that left, all is decided.

func TestWhateverHappens(t *testing.T) {
	met := map[string]int{}
	for seed := range 160 {
		c := config()
		faulty := [][]int{{1}, {2}, {3}, {1}, {0}, nil}[seed%6]
		if seed%8 == 7 {
			c.Nodes = 7
			faulty = append(faulty, 5)
		}
		c.Slots = []int{2, 1, 2, api.MaxSlots, 2}[seed%5]
		s := newSim(t, c, seed, faulty, met)
		for range 700 {
			s.step()
		}
		for s.nodes[1] != nil && s.nodes[1].Next() > 0 {
			s.propose()
		}
		// Views may be far from one another by now, so that it may take longer than from the beginning.
		s.runs("behind whatever happened", 3*bound(c), 2)
		last, _ := s.nodes[s.honest()[0]].View()
		if last > 2 {
			met["late views"]++
		}
	}
	for _, what := range []string{"decided in view 0", "decided as nothing", "taken along, and decided", "failures", "lies of news", "entries told", "late views"} {
		if met[what] < 3 {
			t.Errorf("%s: %d times", what, met[what])
		}
	}
}

// P20.10

func TestLives(t *testing.T) {
	for _, n := range []int{4, 7, 10} {
		for _, timeout := range []int{api.MinTimeout, 20} {
			c := config()
			c.Nodes, c.Timeout = n, timeout
			for silent := range quorum.Faults(n) + 1 {
				// The leader and those behind it are silent: each of their views takes its time.
				var faulty []int
				for i := range silent {
					faulty = append(faulty, 1+i)
				}
				s := newSim(t, c, n, faulty, map[string]int{})
				for s.nodes[1] != nil && s.nodes[1].Next() > 0 {
					s.propose()
				}
				s.runs("silent nodes", bound(c), 0)
			}
		}
	}
}

func TestLivesAmongLiars(t *testing.T) {
	met := map[string]int{}
	for seed := range 60 {
		c := config()
		faulty := [][]int{{1}, {2}, {0}}[seed%3]
		if seed%4 == 3 {
			c.Nodes = 7
			faulty = [][]int{{1, 2}, {1, 3}, {2, 3}}[seed%3]
		}
		s := newSim(t, c, seed, faulty, met)
		for s.nodes[1] != nil && s.nodes[1].Next() > 0 {
			s.propose()
		}
		s.runs("liars", bound(c), 6)
	}
	if met["decided as nothing"] == 0 || met["decided in view 0"] == 0 {
		t.Errorf("%v", met)
	}
}

// beginLate lets the faulty node that leads a view begin it with the changes that were told, to some honest nodes alone.
func (s *sim) beginLate(view, most int, to []int) {
	var news []api.Envelope
	for node := range s.nodes {
		if l := s.moves[view][node]; len(l) > 0 && len(news) < most {
			news = append(news, s.seal(node, l[0]))
		}
	}
	body := s.bytes(api.Msg{Kind: api.MsgNew, Epoch: s.e.Number, Leader: s.leader, View: view, News: news})
	for _, i := range to {
		s.hear(packet{s.primary(view), i, body})
	}
}

// late runs a segment whose leader is silent, and whose next views, Faults in all, are led by faulty nodes that begin them so many rounds behind the moment at which they could, and tell it to so many honest nodes. It tells behind how many rounds all is decided.
func late(t *testing.T, c api.Config, wait, told int) int {
	faults, most := quorum.Faults(c.Nodes), quorum.Most(c.Nodes)
	var faulty []int
	for i := range faults {
		faulty = append(faulty, 1+i)
	}
	s := newSim(t, c, 1, faulty, map[string]int{})
	since := make([]int, faults)
	for round := range bound(c) + 1 {
		if s.done() {
			return round
		}
		s.round(0)
		for view := 1; view < faults; view++ {
			if len(s.moves[view]) >= most && since[view] == 0 {
				since[view] = round
			}
			if since[view] > 0 && round == since[view]+wait {
				s.beginLate(view, most, s.honest()[:told])
			}
		}
	}
	t.Fatalf("%d nodes, begun %d rounds late, told %d nodes: it is not decided behind %d rounds", c.Nodes, wait, told, bound(c))
	return 0
}

func TestLivesWithLateBeginnings(t *testing.T) {
	c := config()
	c.Slots, c.Timeout = 1, api.MaxTimeout
	for _, n := range []int{7, 16, 19} {
		c.Nodes = n
		most := quorum.Most(n)
		for _, told := range []int{1, quorum.Some(n), most - 1} {
			// A view that is begun late takes no longer than one that is not begun.
			if silent, got := late(t, c, c.Timeout, told), late(t, c, c.Timeout-3, told); got > silent {
				t.Errorf("%d nodes, told %d: %d rounds, with silent nodes %d", n, told, got, silent)
			}
		}
	}
}

// Rule 5: what is done twice comes to the same.

func TestTwiceTheSame(t *testing.T) {
	for seed := range 4 {
		var runs [2]*sim
		for i := range runs {
			runs[i] = newSim(t, config(), seed, []int{2}, map[string]int{})
			for range 500 {
				runs[i].step()
			}
		}
		for _, i := range runs[0].honest() {
			if !slices.EqualFunc(runs[0].kept[i], runs[1].kept[i], sameRec) || !look(runs[0].nodes[i]).same(look(runs[1].nodes[i])) {
				t.Fatalf("seed %d: node %d is not the same", seed, i)
			}
		}
		if !slices.Equal(runs[0].net, runs[1].net) {
			t.Fatalf("seed %d: what is said is not the same", seed)
		}
	}
}
