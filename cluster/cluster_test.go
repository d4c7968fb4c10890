package cluster

import (
	"slices"
	"strings"
	"testing"

	"raddle/api"
	"raddle/node"
	"raddle/request"
	"raddle/state"
	"raddle/tape"
)

// The chapter's example.

func TestExample(t *testing.T) {
	w := begun(t, Conf{Config: config()})
	for range 6 {
		for i := range 4 {
			w.do(Act{Kind: Tick, Node: i}, api.OK)
		}
		w.do(Act{Kind: Round}, api.OK)
	}
	for i := range 4 {
		if w.State(i).Epoch < 2 {
			t.Errorf("node %d: %+v", i, w.State(i))
		}
	}
}

// P27.1

func TestNewErrors(t *testing.T) {
	bad := func(change func(c *Conf)) Conf {
		c := conf()
		change(&c)
		return c
	}
	for i, x := range []struct {
		c    Conf
		want api.Errno
	}{
		{conf(), api.OK},
		{Conf{}, api.ErrConfig},
		{bad(func(c *Conf) { c.Config.Nodes = 5 }), api.ErrConfig},
		{bad(func(c *Conf) { c.Config.Timeout, c.Seed = 11, strings.Repeat("x", 65) }), api.ErrConfig},
		{bad(func(c *Conf) { c.Config.Last, c.Faulty = 0, []int{9} }), api.ErrConfig},
		{bad(func(c *Conf) { c.Seed = strings.Repeat("x", 64) }), api.OK},
		{bad(func(c *Conf) { c.Seed = strings.Repeat("x", 65) }), api.ErrArg},
		{bad(func(c *Conf) { c.Seed = "" }), api.OK},
		{bad(func(c *Conf) { c.Faulty = nil }), api.OK},
		{bad(func(c *Conf) { c.Faulty = []int{3} }), api.OK},
		{bad(func(c *Conf) { c.Faulty = []int{4} }), api.ErrArg},
		{bad(func(c *Conf) { c.Faulty = []int{-1} }), api.ErrArg},
		{bad(func(c *Conf) { c.Faulty = []int{1, 2} }), api.ErrArg},
		{bad(func(c *Conf) { c.Config.Nodes, c.Faulty = 7, []int{1, 2} }), api.OK},
		{bad(func(c *Conf) { c.Config.Nodes, c.Faulty = 7, []int{6, 0} }), api.OK},
		{bad(func(c *Conf) { c.Config.Nodes, c.Faulty = 7, []int{2, 2} }), api.ErrArg},
		{bad(func(c *Conf) { c.Config.Nodes, c.Faulty = 7, []int{2, 7} }), api.ErrArg},
		{bad(func(c *Conf) { c.Config.Nodes, c.Faulty = 7, []int{1, 2, 3} }), api.ErrArg},
		{bad(func(c *Conf) { c.Liars = []int{2, 0, 1} }), api.OK},
		{bad(func(c *Conf) { c.Liars = []int{3} }), api.ErrArg},
		{bad(func(c *Conf) { c.Liars = []int{-1} }), api.ErrArg},
		{bad(func(c *Conf) { c.Liars = []int{1, 1} }), api.ErrArg},
		{bad(func(c *Conf) { c.Liars = slices.Repeat([]int{0}, 1<<20) }), api.ErrArg},
	} {
		got, err := New(x.c)
		if err != x.want || (got != nil) != (err == api.OK) {
			t.Errorf("%d: %v, %d, want %d", i, got != nil, int(err), int(x.want))
		}
	}
}

// Who is honest, and whose keys there are.
func TestNew(t *testing.T) {
	c := conf()
	w := begun(t, c)
	c.Faulty[0], c.Liars[0] = 1, 1 // the lists may be gone on with
	for i := range 4 {
		if !w.On(i) || w.Ended(i) || w.Honest(i) != (i != 2) || !state.Same(w.State(i), state.First(c.Config)) || w.Next(i) != 1 || w.Count(i) != 0 || len(w.Log(i)) != 0 {
			t.Errorf("node %d: %s", i, w.toldOf(i))
		}
	}
	if w.Len() != 0 || w.Sent() != 0 {
		t.Error(w.Len(), w.Sent())
	}
	w.do(Act{Kind: Tick, Node: 1}, api.OK)
	if x, err := w.Past(0); err != api.OK || x.From != 1 || !w.k.Check(1, x.Body, x.Tag) {
		t.Errorf("%+v %d", x, int(err))
	}
	for client, want := range []api.Errno{api.ErrOther, api.ErrOther, api.ErrThere} {
		w.do(Act{Kind: Submit, N: client, M: 1, Data: "a"}, api.OK)
		w.do(Act{Kind: Submit, N: client, M: 1, Data: "b"}, want)
	}
	if w.ring.keys() != w.ring.keys() || w.ring.keys().Len() != 7 {
		t.Error("keys are made twice")
	}
}

// The tapes have just the room that node's Bound tells.
func TestTapes(t *testing.T) {
	w := begun(t, conf())
	for i, m := range w.machines {
		bound := node.Bound(w.config)
		_, _, used, _ := w.Sizes(i)
		if err := m.tape.Append(0, make([]byte, bound-used+1)); err != api.ErrRoom {
			t.Error(int(err))
		}
		if err := m.tape.Append(0, make([]byte, bound-used)); err != api.OK {
			t.Error(int(err))
		}
	}
}

func TestRounds(t *testing.T) {
	c := config() // Cap 4 by 2
	if got, want := Rounds(c), 84*(4+1+2)*2+84; got != want {
		t.Errorf("%d, want %d", got, want)
	}
	for cap, p := range []int{1: 1, 2: 1, 3: 1, 4: 1, 5: 2, 8: 2, 9: 3, 16: 4} {
		c := api.Config{Nodes: 64, Clients: 1, Window: 1, Buckets: 1, Cap: cap, Slots: 2, Requests: 2, Timeout: 64, Penalty: 8, Last: 1}
		e := (21+3)*(64+6) + 12
		want := e*(64+8+2)*p + e
		if cap == 0 || p == 0 {
			continue
		}
		if got := Rounds(c); got != want {
			t.Errorf("cap %d: %d, want %d", cap, got, want)
		}
	}
	c.Cap = 0
	if Rounds(c) != 0 || Rounds(api.Config{}) != 0 {
		t.Error(Rounds(c))
	}
}

// P27.3

// The calls tell what the node's do: held against nodes that a test runs by itself.
func TestTells(t *testing.T) {
	w := begun(t, conf())
	w.ask(1, 1, "data")
	w.do(Act{Kind: Submit, Node: 0, N: 0, M: 9}, api.ErrFar)
	for range 7 {
		w.tickAll()
	}
	for i, m := range w.machines {
		n := m.node
		waiting, kept, used, rejects := w.Sizes(i)
		if !state.Same(w.State(i), n.State()) || w.Next(i) != n.Next() || w.Count(i) != n.Count() || w.Chain(i) != n.Chain() || w.Ended(i) != n.Ended() {
			t.Errorf("node %d: %s", i, w.toldOf(i))
		}
		if waiting != n.Waiting() || kept != n.Kept() || used != m.tape.Used() || rejects != n.Rejects() {
			t.Error(waiting, kept, used, rejects)
		}
		if w.State(i).Epoch < 2 || w.Count(i) != 1 || w.Chain(i) == (api.Digest{}) || rejects == 0 || used == 0 {
			t.Errorf("node %d: %s", i, w.toldOf(i))
		}
		want := []api.Delivered{{Index: 1, Slot: w.Log(0)[0].Slot, Request: w.request(1, 1, "data")}}
		if got := w.Log(i); !slices.Equal(got, want) {
			t.Error(got)
		}
		w.Log(i)[0].Index = 7 // new memory
		if got := w.Log(i); !slices.Equal(got, want) {
			t.Error("a log is shared")
		}
	}
	if w.Len() != w.net.Len() || w.Sent() != w.net.Sent() || w.Sent() == 0 {
		t.Error(w.Len(), w.Sent())
	}
	for i := range w.Sent() {
		x, err := w.Past(i)
		if want, _ := w.net.Past(i); err != api.OK || x != want {
			t.Error(i, int(err))
		}
	}
	for _, i := range append(wrong(), w.Sent()) {
		if x, err := w.Past(i); err != api.ErrPacket || x != (api.Envelope{}) {
			t.Error(i, int(err))
		}
	}
}

func TestEnds(t *testing.T) {
	c := conf()
	c.Config.Last = 1
	w := begun(t, c)
	for range 8 {
		w.tickAll()
	}
	for i := range 4 {
		if !w.Ended(i) || !w.On(i) || w.State(i).Epoch != 1 {
			t.Errorf("node %d: %s", i, w.toldOf(i))
		}
	}
	w.dropAll()
	w.do(Act{Kind: Tick, Node: 1}, api.ErrEnd)
	if w.Len() == 0 {
		t.Error("what is told beside ErrEnd does not go out")
	}
	w.dropAll()
	w.rounds(1)
	if w.Len() == 0 {
		t.Error("nothing goes out in a round")
	}
}

func TestSubmitted(t *testing.T) {
	w := begun(t, conf())
	is := func(client, num int, want string, there bool) {
		t.Helper()
		if got, ok := w.Submitted(client, num); got != want || ok != there {
			t.Errorf("%d %d: %q %v", client, num, got, ok)
		}
	}
	is(0, 1, "", false)
	w.do(Act{Kind: Submit, N: 0, M: 1, Data: ""}, api.OK)
	is(0, 1, "", true)
	is(0, 2, "", false)
	is(1, 1, "", false)
	w.do(Act{Kind: Submit, N: 0, M: 1, Data: "b"}, api.ErrOther)
	is(0, 1, "", true)
	w.do(Act{Kind: Submit, N: 2, M: 1, Data: "b"}, api.OK)
	w.do(Act{Kind: Submit, N: 2, M: 1, Data: "c"}, api.ErrThere)
	w.do(Act{Kind: Submit, Node: 1, N: 2, M: 1, Data: "c"}, api.OK)
	is(2, 1, "b", true)
	w.do(Act{Kind: Submit, N: 0, M: 100, Data: "far"}, api.ErrFar)
	is(0, 100, "far", true)
	w.do(Act{Kind: Submit, N: 0, M: 100, Data: "other"}, api.ErrOther)
	for _, x := range wrong() {
		is(x, 1, "", false)
		is(0, x, "", false)
	}
}

func TestNoNode(t *testing.T) {
	w := begun(t, conf())
	w.tickAll()
	for _, i := range append(wrong(), 4) {
		nothing(t, w.Cluster, i)
	}
}

// nothing tests that there is nothing to tell of a number that is no node.
func nothing(t *testing.T, c *Cluster, i int) {
	t.Helper()
	waiting, kept, used, rejects := c.Sizes(i)
	if c.On(i) || c.Next(i) != 0 || c.Count(i) != 0 || c.Chain(i) != (api.Digest{}) || len(c.Log(i)) != 0 || c.Ended(i) || c.Honest(i) {
		t.Errorf("something is told of %d", i)
	}
	if waiting != 0 || kept != 0 || used != 0 || rejects != 0 {
		t.Error(waiting, kept, used, rejects)
	}
	if !state.Same(c.State(i), api.State{}) {
		t.Error(c.State(i))
	}
}

// Rule 1

func TestNotMade(t *testing.T) {
	for _, c := range []*Cluster{nil, {}} {
		for kind := -1; kind < 12; kind++ {
			if err := c.Do(Act{Kind: kind}); err != api.ErrNil {
				t.Errorf("%d: %d", kind, int(err))
			}
		}
		for _, i := range append(wrong(), 0, 1) {
			nothing(t, c, i)
			if x, err := c.Past(i); err != api.ErrNil || x != (api.Envelope{}) {
				t.Error(int(err))
			}
			if s, ok := c.Submitted(i, i); s != "" || ok {
				t.Error(s, ok)
			}
		}
		if c.Len() != 0 || c.Sent() != 0 {
			t.Error(c.Len(), c.Sent())
		}
	}
}

// stuck lets a node be stuck, though it has power: its tape has no room. The test fills the area that is not the journal's own, which is cleared when it is laid anew.
func (w *world) stuck(i int) {
	w.t.Helper()
	m := w.machines[i]
	if err := m.tape.Append(1, make([]byte, node.Bound(w.config)-m.tape.Used())); err != api.OK {
		w.t.Fatal(int(err))
	}
	for w.On(i) {
		w.tickAll()
	}
	if !m.tape.On() {
		w.t.Fatal("no power")
	}
}

// A plan may end the power while a node is opened: then it is down, and can be started again.
func TestStartFails(t *testing.T) {
	w := begun(t, conf())
	w.tickAll()
	w.stuck(1)
	m := w.machines[1]
	w.do(Act{Kind: Arm, Node: 1}, api.ErrDown)
	w.do(Act{Kind: Tick, Node: 1}, api.ErrDown)
	if err := m.tape.Arm(0, 0); err != api.OK {
		t.Fatal(int(err))
	}
	w.do(Act{Kind: Start, Node: 1}, api.ErrPower)
	if w.On(1) {
		t.Error("on")
	}
	w.do(Act{Kind: Crash, Node: 1}, api.ErrDown)
	w.do(Act{Kind: Start, Node: 1}, api.OK)
	if !w.On(1) {
		t.Error("down")
	}
}

// One that is stuck has power to lose.
func TestCrashStuck(t *testing.T) {
	w := begun(t, conf())
	w.tickAll()
	w.stuck(1)
	w.do(Act{Kind: Crash, Node: 1}, api.OK)
	w.do(Act{Kind: Crash, Node: 1}, api.ErrDown)
	w.do(Act{Kind: Start, Node: 1}, api.OK)
}

// What no node wrote is no journal of one: a node that can't be opened is down, and tells what it told.
func TestStartRefused(t *testing.T) {
	w := begun(t, conf())
	w.tickAll()
	m := w.machines[1]
	w.do(Act{Kind: Crash, Node: 1}, api.OK)
	m.tape.Power()
	if err := takeOver(m.tape, w.config); err != api.OK {
		t.Fatal(int(err))
	}
	m.tape.Fail(0)
	was := w.State(1)
	w.do(Act{Kind: Start, Node: 1}, api.ErrRecord)
	if w.On(1) || !m.tape.On() || !state.Same(w.State(1), was) {
		t.Error(w.On(1), m.tape.On())
	}
	w.do(Act{Kind: Tick, Node: 1}, api.ErrDown)
	w.do(Act{Kind: Start, Node: 1}, api.ErrRecord)
	w.do(Act{Kind: Crash, Node: 1}, api.OK)
}

// takeOver lets a tape have the journal of a node of other keys, from behind its first epoch.
func takeOver(t *tape.Tape, c api.Config) api.Errno {
	other, err := New(Conf{Config: c, Seed: "another seed"})
	if err != api.OK {
		return err
	}
	w := &world{Cluster: other}
	for range 8 {
		for i := range c.Nodes {
			w.Do(Act{Kind: Tick, Node: i})
		}
		w.hearAll()
	}
	for area := range 2 {
		b, err := other.machines[1].tape.Read(area)
		if err != api.OK {
			return err
		}
		if err := t.Clear(area); err != api.OK {
			return err
		}
		if err := t.Append(area, b); err != api.OK {
			return err
		}
		if err := t.Sync(area); err != api.OK {
			return err
		}
	}
	return api.OK
}

// What a client asks for is signed by it.
func TestRequestsAreSigned(t *testing.T) {
	w := begun(t, conf())
	w.ask(0, 1, "one")
	for range 4 {
		w.tickAll()
	}
	l := w.Log(3)
	if len(l) != 1 || request.Good(w.k, 4, 3, l[0].Request) != api.OK || l[0].Request.Data != "one" {
		t.Error(l)
	}
}
