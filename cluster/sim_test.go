package cluster

import (
	"flag"
	"testing"

	"raddle/api"
	"raddle/batch"
	"raddle/change"
	"raddle/epoch"
	"raddle/message"
	"raddle/quorum"
	"raddle/state"
)

var more = flag.Int("more", 1, "how many times as many runs of the whole there are")

// sim is a watched cluster to which things happen by chance, and whose faulty nodes mean it ill.
type sim struct {
	*watch
	faulty []int
	nums   []int // how many numbers each client has used

	rough, lossy int // of a hundred: how often power fails where it may, how many packets are lost
}

func newSim(t testing.TB, c Conf, seed int, met map[string]int) *sim {
	t.Helper()
	return &sim{watch: watched(t, c, seed, met), faulty: c.Faulty, nums: make([]int, c.Config.Clients), rough: seed % 4 * 30, lossy: seed % 5 % 3 * 20}
}

// step does something. How rough it is differs from run to run.
func (s *sim) step() {
	i := s.below(s.config.Nodes)
	switch x := s.below(100); {
	case x < 40:
		for range s.below(60) {
			s.hearNext()
		}
	case x < 43 && s.Len() > 0:
		s.act(Act{Kind: Drop, N: s.below(s.Len())})
	case x < 46 && s.Len() > 0:
		s.act(Act{Kind: Copy, N: s.below(s.Len())})
	case x < 49 && s.Sent() > 0:
		s.act(Act{Kind: Replay, Node: i, N: s.below(s.Sent())})
	case x < 78:
		s.act(Act{Kind: Tick, Node: i})
	case x < 83:
		s.submitSome()
	case x < 85 && s.below(100) < s.rough:
		s.act(Act{Kind: Crash, Node: i, M: s.below(600)})
	case x < 87 && s.below(100) < s.rough:
		s.act(Act{Kind: Arm, Node: i, N: s.below(9), M: s.below(600) - 50})
	case x < 92:
		s.act(Act{Kind: Start, Node: i})
	case x < 93:
		s.act(Act{Kind: Round})
	case len(s.faulty) > 0:
		s.lie(s.someFaulty())
	}
}

func (s *sim) someFaulty() int {
	return s.faulty[s.below(len(s.faulty))]
}

// hearNext lets the next packet be heard, or one from somewhere behind it, or loses it.
func (s *sim) hearNext() {
	many := s.Len()
	if many == 0 {
		return
	}
	k := 0
	if s.below(4) == 0 {
		k = s.below(many)
	}
	if s.below(100) < s.lossy {
		s.act(Act{Kind: Drop, N: k})
		return
	}
	s.act(Act{Kind: Deliver, N: k})
}

// submitSome submits a request to some nodes, or again one that was asked for.
func (s *sim) submitSome() {
	client := s.below(s.config.Clients)
	num := 1 + s.nums[client]
	if s.below(4) == 0 {
		num = 1 + s.below(num)
	} else {
		s.nums[client]++
	}
	all := s.below(2) == 0
	for i := range s.config.Nodes {
		if all || s.below(2) == 0 {
			data := "data"
			if s.below(3) == 0 {
				data = "other" // of an honest client that is refused
			}
			if s.act(Act{Kind: Submit, Node: i, N: client, M: num, Data: data}) == api.OK {
				s.met["submitted"]++
			}
		}
	}
}

// say lets a faulty node say something to one node, and lets that be heard at once, or when it comes.
func (s *sim) say(from, to int, m api.Msg) {
	body, err := message.Encode(m)
	if err != api.OK {
		return
	}
	many := s.Len()
	err = s.act(Act{Kind: Inject, Node: from, N: to, Data: body})
	switch {
	case err == api.ErrRights:
		s.met["no right"]++
	case err == api.OK && s.Len() > many:
		s.met["lies"]++
		if s.below(2) == 0 {
			s.act(Act{Kind: Deliver, N: s.Len() - 1})
		}
	}
}

// epochOf is the epoch in which a node is.
func (s *sim) epochOf(i int) (epoch.Epoch, bool) {
	e, err := state.Epoch(s.config, s.State(i))
	return e, err == api.OK
}

// lie lets a faulty node say something of its own to one node.
func (s *sim) lie(from int) {
	to := s.below(s.config.Nodes)
	e, there := s.epochOf(to)
	if !there {
		return
	}
	slot := e.Start + s.below(epoch.End(e)-e.Start)
	var m api.Msg
	switch s.below(10) {
	case 0:
		m = api.Msg{Kind: api.MsgPropose, Epoch: e.Number, Slot: slot, Batch: s.someBatch()}
		if own := epoch.Slots(e, from); len(own) > 0 {
			m.Slot = own[s.below(len(own))]
		}
	case 1, 2, 3:
		m = api.Msg{Kind: api.MsgVote, Vote: s.vote(1+s.below(2), e.Number, s.below(3), slot, s.someBatch())}
	case 4:
		c := api.Change{Epoch: e.Number, Leader: e.Leaders[s.below(len(e.Leaders))], View: 1 + s.below(3)}
		c.Held = s.someHeld(e, c)
		m = api.Msg{Kind: api.MsgChange, Change: c}
	case 5:
		m = s.someNew(e)
	case 6:
		m = api.Msg{Kind: api.MsgMark, Epoch: e.Number + s.below(2), Digest: api.Digest{byte(s.below(2))}}
	case 7:
		m = api.Msg{Kind: api.MsgStatus, Epoch: s.below(e.Number + 2), Slot: slot}
	case 8:
		m = s.someState(to)
	case 9:
		v := s.vote(api.Commit, e.Number, s.below(2), slot, s.someBatch())
		m = api.Msg{Kind: api.MsgEntry, Cert: s.cert(v, s.below(s.config.Nodes), from)}
	}
	s.say(from, to, m)
}

// someBatch is a batch of requests, which may be too late, or another leader's, or not asked for.
func (s *sim) someBatch() api.Batch {
	switch s.below(4) {
	case 0:
		return batch.None()
	case 1:
		return api.Batch{}
	}
	client := s.below(s.config.Clients)
	return api.Batch{Requests: []api.Request{s.request(client, 1+s.below(s.nums[client]+1), []string{"data", "other"}[s.below(2)])}}
}

// someState is the state of which a node would be next, with the signs of many who did not mark it.
func (s *sim) someState(i int) api.Msg {
	next := s.State(i)
	next.Epoch++
	next.Count += s.below(3)
	body := message.Mark(next.Epoch-1, state.Digest(next))
	signers := []int{}
	for n := range s.config.Nodes {
		if s.below(3) > 0 {
			signers = append(signers, n)
		}
	}
	return api.Msg{Kind: api.MsgState, State: state.Bytes(next), Signs: s.signs(body, signers...)}
}

// pastMsgs are some of the messages of a kind that were sent, each with its envelope.
func (s *sim) pastMsgs(kind int) (l []api.Msg, from []api.Envelope) {
	const back = 200
	for i := max(0, s.Sent()-back); i < s.Sent(); i++ {
		x, _ := s.Past(i)
		if m, err := message.Decode(x.Body); err == api.OK && m.Kind == kind {
			l, from = append(l, m), append(from, x)
		}
	}
	return l, from
}

// someHeld is what somebody else held, as far as it may stand in a change.
func (s *sim) someHeld(e epoch.Epoch, c api.Change) []api.Held {
	l, _ := s.pastMsgs(api.MsgChange)
	for _, m := range l {
		c.Held = m.Change.Held
		if m.Change.Leader == c.Leader && s.below(2) == 0 && change.Good(s.k, e, c) == api.OK {
			return c.Held
		}
	}
	return nil
}

// someNew begins a view with changes that were sent, if there are enough.
func (s *sim) someNew(e epoch.Epoch) api.Msg {
	l, sealed := s.pastMsgs(api.MsgChange)
	if len(l) == 0 {
		return api.Msg{}
	}
	asked := l[s.below(len(l))].Change
	m := api.Msg{Kind: api.MsgNew, Epoch: e.Number, Leader: asked.Leader, View: asked.View}
	for node := range s.config.Nodes {
		for i, x := range sealed {
			if c := l[i].Change; x.From == node && c.Leader == asked.Leader && c.View == asked.View && len(m.News) < quorum.Most(s.config.Nodes) {
				m.News = append(m.News, x)
				break
			}
		}
	}
	return m
}

// settle tests W4: from whatever was, what all honest nodes took is delivered by them all in Rounds rounds, and those who were away come to what the others had.
func (s *sim) settle(ill func(s *sim)) {
	s.t.Helper()
	had := 0
	for i := range s.config.Nodes {
		s.act(Act{Kind: Start, Node: i})
		s.act(Act{Kind: Arm, Node: i, N: 1 << 40}) // in the place of any other plan
		if s.Honest(i) {
			had = max(had, s.Count(i))
		}
	}
	wanted := s.askLast()
	for round := range Rounds(s.config) {
		if round == epochRounds(s.config) {
			s.caughtUp(had)
		}
		if s.isOver(wanted) && s.isAt(had) {
			s.met["rounds of "+s.name()] = max(s.met["rounds of "+s.name()], round)
			return
		}
		if len(s.faulty) > 0 {
			ill(s)
		}
		s.act(Act{Kind: Round})
	}
	if !s.isOver(wanted) {
		for i := range s.config.Nodes {
			s.t.Errorf("node %d: epoch %d, next %d, count %d of %d, views %v, ended %v", i, s.State(i).Epoch, s.Next(i), s.Count(i), len(s.order), s.machines[i].node.Views(), s.Ended(i))
		}
		s.t.Fatalf("%d of what was asked for is not delivered in %d rounds", len(wanted), Rounds(s.config))
	}
}

func (s *sim) name() string {
	return string(rune('0'+s.config.Nodes/10)) + string(rune('0'+s.config.Nodes%10)) + " nodes"
}

// askLast lets each honest client submit, to all honest nodes, a number that nobody delivered; those that all took are told.
func (s *sim) askLast() []pair {
	var wanted []pair
	for client := range s.config.Clients {
		if !s.isHonest(s.config.Nodes + client) {
			continue
		}
		num := 1
		for s.pairs[pair{client, num}] > 0 {
			num++
		}
		data, there := s.Submitted(client, num)
		if !there {
			data = "last"
		}
		taken := true
		for i := range s.config.Nodes {
			err := s.act(Act{Kind: Submit, Node: i, N: client, M: num, Data: data})
			taken = taken && (!s.Honest(i) || err == api.OK || err == api.ErrThere)
		}
		if taken {
			s.met["last ones"]++
			wanted = append(wanted, pair{client, num})
		}
	}
	return wanted
}

// isOver tells whether all honest nodes have delivered those requests, or the last epoch is over.
func (s *sim) isOver(wanted []pair) bool {
	need := 0
	for _, x := range wanted {
		at := 0
		for k, r := range s.order {
			if r.Client == x.client && r.Num == x.num {
				at = k + 1
			}
		}
		if at == 0 {
			need = 1 << 40
		}
		need = max(need, at)
	}
	return s.isAt(need)
}

// isAt tells whether all honest nodes have delivered so much, or the last epoch is over.
func (s *sim) isAt(need int) bool {
	all := true
	for i := range s.config.Nodes {
		if s.Honest(i) && s.Ended(i) {
			return true
		}
		all = all && (!s.Honest(i) || s.Count(i) >= need)
	}
	return all
}

func (s *sim) caughtUp(had int) {
	s.t.Helper()
	if !s.isAt(had) {
		s.t.Fatalf("somebody has not come to the %d that others had", had)
	}
}

// The ways in which faulty nodes mean it ill, between the rounds.

func silent(*sim) {}

func lying(s *sim) {
	for range 3 {
		s.lie(s.someFaulty())
	}
}

// choosy lets faulty nodes run as the others do, but some of what they say is lost on its way to some.
func choosy(s *sim) {
	spared := s.below(s.config.Nodes)
	for k := 0; k < s.Len(); {
		p, _ := s.net.Look(k)
		switch {
		case s.Honest(p.To) && s.Honest(p.X.From):
			k++
		case s.Honest(p.To) && (p.To == spared || s.below(3) == 0):
			s.act(Act{Kind: Drop, N: k})
		default:
			s.act(Act{Kind: Deliver, N: k})
		}
	}
	for _, i := range s.faulty {
		s.act(Act{Kind: Tick, Node: i})
	}
}

// both is lying and choosy, now one, now the other.
func both(s *sim) {
	if s.below(3) == 0 {
		lying(s)
	}
	choosy(s)
}

// W1 to W6, and P27.5.

func TestWhateverHappens(t *testing.T) {
	met := map[string]int{}
	ways := []func(s *sim){silent, lying, choosy, both}
	run := func(c Conf, seeds, steps int) {
		for seed := range seeds * *more {
			s := newSim(t, c, seed, met)
			for range steps {
				s.step()
			}
			met["delivered"] += len(s.order)
			s.settle(ways[seed%len(ways)])
			if seed%3 == 0 {
				s.again(c)
			}
			met["epochs"] += s.State(0).Epoch
			if t.Failed() {
				t.Fatalf("seed %d", seed)
			}
		}
	}
	c := conf()
	c.Config.Last = 1000
	run(Conf{Config: c.Config}, 8, 700)
	run(c, 20, 700)
	c.Config.Slots, c.Config.Requests, c.Config.Penalty = 4, 1, 0
	c.Config.Buckets, c.Config.Window, c.Config.Timeout = 2, 3, 20
	run(c, 8, 700)
	c.Config.Last = 2
	run(c, 4, 500)
	c.Config.Nodes, c.Config.Buckets, c.Config.Last, c.Config.Slots = 7, 5, 1000, 1
	c.Faulty = []int{1, 4}
	run(c, 4, 1000)
	for _, what := range []string{"started", "started later", "started with less", "submitted", "lies", "no right", "delivered", "epochs", "last ones"} {
		if met[what] == 0 {
			t.Errorf("never met: %s", what)
		}
	}
	t.Log(met)
}

// someConf is a setting by chance, of few nodes.
func someConf(below func(n int) int) Conf {
	pick := func(l ...int) int { return l[below(len(l))] }
	n := pick(4, 4, 4, 7, 7, 10)
	c := Conf{Config: api.Config{
		Nodes: n, Clients: 1 + below(4), Window: pick(1, 2, 3, 8, 64), Buckets: 1 + below(n), Cap: pick(1, 2, 3, 5, 16), Slots: 1 + below(4),
		Requests: 1 + below(4), Timeout: pick(12, 12, 13, 20), Penalty: pick(0, 1, 2, 8), Last: pick(1000, 1000, 3),
	}}
	for i := range n {
		if len(c.Faulty) < quorum.Faults(n) && below(2) == 0 {
			c.Faulty = append(c.Faulty, i)
		}
	}
	for i := range c.Config.Clients {
		if below(3) == 0 {
			c.Liars = append(c.Liars, i)
		}
	}
	return c
}

// The same in whatever setting; and behind it once more.
func TestWhateverSetting(t *testing.T) {
	ways := []func(s *sim){silent, lying, choosy, both}
	met := map[string]int{}
	for seed := range 12 * *more {
		below := random(seed + 5000)
		c := someConf(below)
		s := newSim(t, c, seed, met)
		for range 300 + below(700) {
			s.step()
		}
		s.settle(ways[below(len(ways))])
		s.settle(ways[below(len(ways))])
		if t.Failed() {
			t.Fatalf("seed %d: %+v", seed, c)
		}
	}
	if met["last ones"] == 0 {
		t.Error("nothing was asked for")
	}
	t.Log(met)
}

// W3: one node's power fails at each operation of its tape, whatever is kept, and it starts again.
func TestEachOperation(t *testing.T) {
	c := conf()
	c.Config.Slots = 2
	met := map[string]int{}
	for _, keep := range []int{-1, 40, 1 << 20} {
		for op := 0; ; op++ {
			w := watched(t, c, 1, met)
			w.act(Act{Kind: Arm, Node: 1, N: op, M: keep})
			for num := 1; num <= 3; num++ {
				for i := range 4 {
					w.act(Act{Kind: Submit, Node: i, N: 0, M: num, Data: "data"})
				}
			}
			failed := false
			for range 9 {
				for i := range 4 {
					w.act(Act{Kind: Tick, Node: i})
				}
				for range w.Len() {
					w.act(Act{Kind: Deliver})
					if !w.On(1) {
						failed = true
						w.act(Act{Kind: Start, Node: 1})
					}
				}
			}
			if w.Count(1) != 3 || w.State(1).Epoch < 2 || !w.On(1) {
				t.Fatalf("operation %d, %d kept: %s", op, keep, w.toldOf(1))
			}
			if !failed {
				met["operations"] += op
				break
			}
		}
	}
	if met["started later"] == 0 || met["started with less"] == 0 {
		t.Error(met)
	}
	t.Log(met)
}
