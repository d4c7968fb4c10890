package segment

import (
	"math"
	"slices"
	"testing"

	"raddle/api"
	"raddle/batch"
	"raddle/change"
	"raddle/message"
)

// In the world of four nodes with leader 1 view 1 is led by node 2, view 2 by node 3, view 3 by node 0, view 4 by node 1.

// P20.4

func TestTick(t *testing.T) {
	w := four(t)
	for _, timeout := range []int{api.MinTimeout, 13, api.MaxTimeout} {
		w.e.Config.Timeout = timeout
		s := w.node(0)
		w.quiet("view 0", s, timeout-1)
		w.saidIs("the last tick", s.Tick(), []api.Rec{w.goes(1)}, w.change(1))
		w.viewIs("behind it", s, 1, false)
		// Alone it waits, and with one more node too; a node that is in a later view is there as well.
		w.quiet("alone", s, 3*timeout)
		w.hears(s, 3, w.change(5))
		w.quiet("with another one", s, 3*timeout)
		w.hears(s, 1, w.change(1))
		w.quiet("with the quorum", s, timeout-1)
		w.saidIs("the last tick of view 1", s.Tick(), []api.Rec{w.goes(2)}, w.change(2))
		w.quiet("with one that is in view 2 or a later one", s, 3*timeout)
	}
}

func TestTickWhileReady(t *testing.T) {
	w := four(t)
	s := w.node(0)
	w.hears(s, 2, w.begins(1, w.change(1), 1, 2, 3))
	w.viewIs("begun", s, 1, true)
	// No node's change was heard: ready is enough.
	w.quiet("view 1", s, 11)
	w.saidIs("the last tick", s.Tick(), []api.Rec{w.goes(2)}, w.change(2))
}

func TestTickGoesOnWithItsAge(t *testing.T) {
	w := four(t)
	s := w.node(0)
	w.quiet("view 0", s, 5)
	b := w.asks(0)
	w.hears(s, 1, w.propose(10, b))
	for _, n := range []int{1, 2, 3} {
		w.hears(s, n, w.prepare(0, 10, b))
		w.hears(s, n, w.commit(0, 10, b))
	}
	if s.Open() != 1 {
		t.Fatal("slot 10 is not decided")
	}
	w.quiet("what is decided does not make it younger", s, 6)
	if said := s.Tick(); len(said.Recs) != 1 {
		t.Errorf("%v", said)
	}
}

func TestTickWhenDone(t *testing.T) {
	w := four(t)
	s := w.node(0)
	w.hears(s, 3, w.entry(0, 10, w.asks(0), 1, 2, 3))
	w.quiet("one slot is left", s, 11)
	w.hears(s, 3, w.entry(0, 14, api.Batch{}, 1, 2, 3))
	w.quiet("done", s, 40)
	w.viewIs("done", s, 0, true)
	if len(s.Again()) != 0 || s.Open() != 0 {
		t.Errorf("%+v", look(s))
	}
}

// P20.3: MsgChange

func TestFollow(t *testing.T) {
	w := four(t)
	s := w.node(3)
	w.saidIs("one node", w.hears(s, 0, w.change(5)), nil)
	w.viewIs("one node", s, 0, true)
	// The second greatest of all other nodes' views is gone to.
	w.saidIs("two nodes", w.hears(s, 2, w.change(3)), []api.Rec{w.goes(3)}, w.change(3))
	w.saidIs("three nodes", w.hears(s, 1, w.change(4)), []api.Rec{w.goes(4)}, w.change(4))
	w.saidIs("not above", w.hears(s, 2, w.change(4)), nil)
	w.saidIs("not above", w.hears(s, 0, w.change(9)), nil)
	w.viewIs("at last", s, 4, false)
	w.saidIs("both above", w.hears(s, 2, w.change(7)), []api.Rec{w.goes(7)}, w.change(7))
}

func TestFollowOfSeven(t *testing.T) {
	c := config()
	c.Nodes = 7
	w := worldOf(t, c)
	s := w.node(6)
	for i, view := range []int{9, 8} {
		w.saidIs("too few", w.hears(s, i, w.change(view)), nil)
	}
	w.saidIs("as many as have an honest one", w.hears(s, 2, w.change(1)), []api.Rec{w.goes(1)}, w.change(1))
	w.saidIs("the third greatest", w.hears(s, 3, w.change(7)), []api.Rec{w.goes(7)}, w.change(7))
}

func TestMeIsNotFollowed(t *testing.T) {
	w := four(t)
	s := w.node(3)
	w.quiet("view 0", s, 11)
	s.Tick()
	w.viewIs("by its age", s, 1, false)
	// With me's own change there are two, but only others are counted.
	w.saidIs("one node", w.hears(s, 0, w.change(2)), nil)
	w.viewIs("one node", s, 1, false)
}

func TestFollowMakesItYoung(t *testing.T) {
	w := four(t)
	s := w.node(3)
	w.quiet("view 0", s, 11)
	w.hears(s, 0, w.change(1))
	w.hears(s, 1, w.change(1))
	w.viewIs("by others", s, 1, false)
	w.quiet("view 1", s, 11)
	if said := s.Tick(); len(said.Recs) != 1 {
		t.Errorf("%v", said)
	}
}

func TestHearChangeRefuses(t *testing.T) {
	w := four(t)
	s := w.node(3)
	b := w.asks(0)
	told := func(c api.Change) string { return change.Body(c) }
	w.refused("another leader", s, 0, told(api.Change{Epoch: 3, Leader: 2, View: 1}), api.ErrOwner)
	w.refused("another leader, another epoch", s, 0, told(api.Change{Epoch: 2, Leader: 2}), api.ErrOwner)
	w.refused("another epoch", s, 0, told(api.Change{Epoch: 2, Leader: 1, View: 1}), api.ErrChange)
	w.refused("view 0", s, 0, w.change(0), api.ErrChange)
	w.refused("held of that view", s, 0, w.change(1, w.held(1, 10, b, 0, 1, 2)), api.ErrChange)
	w.refused("another leader's slot", s, 0, w.change(1, w.held(0, 11, b, 0, 1, 2)), api.ErrChange)
	w.refused("few signs", s, 0, w.change(1, w.held(0, 10, b, 0, 1)), api.ErrSigns)
	w.hears(s, 0, w.change(4, w.held(0, 10, b, 0, 1, 2)))
	w.saidIs("the same", w.hears(s, 0, w.change(4, w.held(0, 10, b, 0, 1, 2))), nil)
	w.refused("another one of that view", s, 0, w.change(4), api.ErrOld)
	w.refused("another one with other signs", s, 0, w.change(4, w.held(0, 10, b, 0, 1, 3)), api.ErrOld)
	w.refused("one of the view below", s, 0, w.change(3), api.ErrOld)
	w.refused("few signs, of an old view", s, 0, w.change(3, w.held(0, 10, b, 0, 1)), api.ErrSigns)
	w.viewIs("all that", s, 0, true)
	w.hears(s, 0, w.change(5))
	w.refused("what was the same", s, 0, w.change(4, w.held(0, 10, b, 0, 1, 2)), api.ErrOld)
}

func TestChangesOfNoNodes(t *testing.T) {
	w := four(t)
	s := w.node(3)
	m := api.Msg{Kind: api.MsgChange, Change: api.Change{Epoch: 3, Leader: 1, View: 1}}
	for _, from := range []int{4, 5, -1, math.MinInt, math.MaxInt} {
		said, _ := s.Hear(m, api.Envelope{From: from})
		w.saidIs("no node", said, nil)
	}
	w.viewIs("they are not counted", s, 0, true)
	if len(s.changes) > 0 {
		t.Errorf("%d are kept", len(s.changes))
	}
}

// To begin.

func TestBegin(t *testing.T) {
	w := four(t)
	none := batch.None()
	s := w.node(2)
	w.quiet("view 0", s, 11)
	w.saidIs("by its age", s.Tick(), []api.Rec{w.goes(1)}, w.change(1))
	w.saidIs("a later view is not that one", w.hears(s, 0, w.change(2)), nil)
	w.saidIs("two nodes", w.hears(s, 1, w.change(1)), nil)
	w.saidIs("the quorum", w.hears(s, 3, w.change(1)), []api.Rec{accepted(10, 1, none), accepted(14, 1, none)},
		w.begins(1, w.change(1), 1, 2, 3), w.prepare(1, 10, none), w.prepare(1, 14, none))
	w.viewIs("begun", s, 1, true)
	for _, n := range []int{1, 3} {
		w.saidIs("heard again", w.hears(s, n, w.change(1)), nil)
	}
}

func TestBeginAtOnce(t *testing.T) {
	w := four(t)
	none := batch.None()
	s := w.node(2)
	w.hears(s, 3, w.change(1))
	w.saidIs("gone to, and begun", w.hears(s, 0, w.change(1)), []api.Rec{w.goes(1), accepted(10, 1, none), accepted(14, 1, none)},
		w.change(1), w.begins(1, w.change(1), 0, 2, 3), w.prepare(1, 10, none), w.prepare(1, 14, none))
	// Node 3 does not lead view 1.
	s = w.node(3)
	w.hears(s, 0, w.change(1))
	w.saidIs("another one leads", w.hears(s, 1, w.change(1)), []api.Rec{w.goes(1)}, w.change(1))
	w.saidIs("another one leads", w.hears(s, 2, w.change(1)), nil)
	w.viewIs("another one leads", s, 1, false)
}

func TestBeginWithWhatWasHeld(t *testing.T) {
	w := four(t)
	a, b, c := w.asks(0), w.asks(2), w.asks(4)
	s := w.node(2)
	// Me holds one, too.
	w.hears(s, 1, w.propose(14, a))
	w.hears(s, 0, w.prepare(0, 14, a))
	w.hears(s, 3, w.prepare(0, 14, a))
	mine := w.change(5, w.held(0, 14, a, 0, 2, 3))
	zero, three := w.change(5, w.held(3, 10, b, 0, 1, 2), w.held(2, 14, c, 0, 1, 2)), w.change(5, w.held(4, 10, c, 1, 2, 3))
	w.hears(s, 0, zero)
	said := w.hears(s, 3, three)
	news := w.bytes(api.Msg{Kind: api.MsgNew, Epoch: 3, Leader: 1, View: 5, News: []api.Envelope{w.seal(0, zero), w.seal(2, mine), w.seal(3, three)}})
	w.saidIs("begun", said, []api.Rec{w.goes(5), accepted(10, 5, c), accepted(14, 5, c)}, mine, news, w.prepare(5, 10, c), w.prepare(5, 14, c))
	// Others come to the same.
	for _, me := range []int{0, 1, 3} {
		other := w.node(me)
		w.saidIs("heard", w.hears(other, 2, news), []api.Rec{w.goes(5), accepted(10, 5, c), accepted(14, 5, c)}, w.prepare(5, 10, c), w.prepare(5, 14, c))
	}
}

func TestFirstOfManyBeginIt(t *testing.T) {
	c := config()
	c.Nodes = 7
	w := worldOf(t, c)
	s := w.node(2)
	for _, n := range []int{6, 5, 4} {
		w.hears(s, n, w.change(1))
	}
	w.viewIs("as many as have an honest one", s, 1, false)
	said := w.hears(s, 0, w.change(1))
	if len(said.Bodies) != 3 || said.Bodies[0] != w.begins(1, w.change(1), 0, 2, 4, 5, 6) {
		t.Errorf("%x", said.Bodies)
	}
	// Behind a failure others may be there already: the first ones are taken.
	w = four(t)
	s = w.node(2)
	for _, n := range []int{0, 1, 3} {
		s.changes[n] = heard{change: api.Change{Epoch: 3, Leader: 1, View: 1}, sealed: w.seal(n, w.change(1))}
	}
	w.quiet("view 0", s, 11)
	if said := s.Tick(); len(said.Bodies) != 4 || said.Bodies[1] != w.begins(1, w.change(1), 0, 1, 2) {
		t.Errorf("%x", said.Bodies)
	}
}

// P20.3: MsgNew

func TestHearNew(t *testing.T) {
	w := four(t)
	none, b := batch.None(), w.asks(0)
	s := w.node(3)
	w.hears(s, 1, w.propose(10, b))
	w.saidIs("from view 0", w.hears(s, 2, w.begins(1, w.change(1), 0, 1, 2)), []api.Rec{w.goes(1), accepted(10, 1, none), accepted(14, 1, none)},
		w.prepare(1, 10, none), w.prepare(1, 14, none))
	w.viewIs("begun", s, 1, true)
	w.saidIs("again", w.hears(s, 2, w.begins(1, w.change(1), 0, 1, 2)), nil)
	// It has begun: what another MsgNew tells is not accepted.
	w.saidIs("another one", w.hears(s, 2, w.begins(1, w.change(1, w.held(0, 10, b, 0, 1, 2)), 0, 1, 2)), nil)
	w.saidIs("a later view", w.hears(s, 0, w.begins(7, w.change(7), 0, 2, 3)), []api.Rec{w.goes(7), accepted(10, 7, none), accepted(14, 7, none)},
		w.prepare(7, 10, none), w.prepare(7, 14, none))
	taken := w.change(5, w.held(0, 10, b, 0, 1, 2), w.held(4, 14, api.Batch{}, 1, 2, 3))
	w.refused("a view below", s, 2, w.begins(5, taken, 0, 1, 2), api.ErrView)
	s = w.node(3)
	w.saidIs("what was held", w.hears(s, 2, w.begins(5, taken, 0, 1, 2)), []api.Rec{w.goes(5), accepted(10, 5, b), accepted(14, 5, api.Batch{})},
		w.prepare(5, 10, b), w.prepare(5, 14, api.Batch{}))
}

func TestHearNewInItsView(t *testing.T) {
	w := four(t)
	none := batch.None()
	s := w.node(3)
	w.hears(s, 0, w.change(1))
	w.hears(s, 1, w.change(1))
	w.viewIs("gone to", s, 1, false)
	w.quiet("waiting", s, 7)
	w.saidIs("no record of the view", w.hears(s, 2, w.begins(1, w.change(1), 0, 1, 2)), []api.Rec{accepted(10, 1, none), accepted(14, 1, none)},
		w.prepare(1, 10, none), w.prepare(1, 14, none))
	w.viewIs("begun", s, 1, true)
	// What it waited counts; hearing it again does not change that.
	w.quiet("begun", s, 2)
	w.hears(s, 2, w.begins(1, w.change(1), 0, 1, 2))
	w.quiet("begun", s, 2)
	w.saidIs("the last tick", s.Tick(), []api.Rec{w.goes(2)}, w.change(2))
}

func TestHearNewInItsViewAtTheEnds(t *testing.T) {
	w := four(t)
	for _, timeout := range []int{api.MinTimeout, api.MaxTimeout} {
		w.e.Config.Timeout = timeout
		for _, waited := range []int{0, 1, timeout - 1} {
			s := w.node(3)
			w.hears(s, 0, w.change(1))
			w.hears(s, 1, w.change(1))
			w.quiet("waiting", s, waited)
			w.hears(s, 2, w.begins(1, w.change(1), 0, 1, 2))
			w.quiet("begun", s, timeout-1-waited)
			w.saidIs("the last tick", s.Tick(), []api.Rec{w.goes(2)}, w.change(2))
		}
	}
	// Ticks alone, ahead of the quorum, are no age: the view has its whole time yet.
	s := w.node(3)
	w.quiet("view 0", s, api.MaxTimeout-1)
	s.Tick()
	w.quiet("alone", s, 100)
	w.hears(s, 2, w.begins(1, w.change(1), 0, 1, 2))
	w.quiet("begun", s, api.MaxTimeout-1)
	w.saidIs("the last tick", s.Tick(), []api.Rec{w.goes(2)}, w.change(2))
}

func TestHearNewOfALaterViewMakesItYoung(t *testing.T) {
	w := four(t)
	s := w.node(0)
	w.quiet("view 0", s, 11)
	w.hears(s, 2, w.begins(1, w.change(1), 0, 1, 2))
	w.quiet("view 1", s, 11)
	// A view that is above the one that runs, and one above the one that is waited for.
	w.hears(s, 3, w.begins(2, w.change(2), 0, 1, 2))
	w.quiet("view 2", s, 11)
	w.saidIs("the last tick", s.Tick(), []api.Rec{w.goes(3)}, w.change(3))
	w.hears(s, 2, w.change(3))
	w.hears(s, 3, w.change(3))
	w.quiet("waiting", s, 11)
	w.hears(s, 1, w.begins(4, w.change(4), 1, 2, 3))
	w.quiet("view 4", s, 11)
	w.saidIs("the last tick", s.Tick(), []api.Rec{w.goes(5)}, w.change(5))
}

func TestHearNewRefuses(t *testing.T) {
	w := four(t)
	s := w.node(3)
	with := func(do func(m *api.Msg)) string {
		m, _ := message.Decode(w.begins(1, w.change(1), 0, 1, 2))
		do(&m)
		return w.bytes(m)
	}
	w.refused("epoch 2", s, 2, with(func(m *api.Msg) { m.Epoch = 2 }), api.ErrOwner)
	w.refused("another leader", s, 2, with(func(m *api.Msg) { m.Leader = 2 }), api.ErrOwner)
	w.refused("view 0", s, 1, with(func(m *api.Msg) { m.View = 0 }), api.ErrOwner)
	w.refused("one who does not lead the view", s, 1, with(func(*api.Msg) {}), api.ErrOwner)
	w.refused("one who leads another view", s, 2, with(func(m *api.Msg) { m.View = 2 }), api.ErrOwner)
	w.refused("another view's changes", s, 2, with(func(m *api.Msg) { m.View = 5 }), api.ErrChange)
	w.refused("no changes", s, 2, with(func(m *api.Msg) { m.News = nil }), api.ErrChange)
	w.refused("two changes", s, 2, with(func(m *api.Msg) { m.News = m.News[:2] }), api.ErrChange)
	w.refused("one twice", s, 2, with(func(m *api.Msg) { m.News[1] = m.News[0] }), api.ErrChange)
	w.refused("a forged one", s, 2, with(func(m *api.Msg) { m.News[1].Tag[0]++ }), api.ErrSender)
	w.refused("no message", s, 2, with(func(m *api.Msg) { m.News[1] = w.seal(1, "") }), api.ErrCut)
	w.refused("few signs", s, 2, with(func(m *api.Msg) { m.News[1] = w.seal(1, w.change(1, w.held(0, 10, w.asks(0), 0, 1))) }), api.ErrSigns)
	for _, view := range []int{-1, math.MinInt, api.MaxNum + 1, math.MaxInt} {
		for from := range 3 {
			if said, err := s.Hear(api.Msg{Kind: api.MsgNew, Epoch: 3, Leader: 1, View: view}, api.Envelope{From: from}); err != api.ErrOwner || len(said.Recs) > 0 {
				t.Errorf("view %d: %v %d", view, said, int(err))
			}
		}
	}
	w.hears(s, 0, w.change(3))
	w.hears(s, 1, w.change(3))
	w.viewIs("gone to", s, 3, false)
	w.refused("a view below", s, 2, with(func(*api.Msg) {}), api.ErrView)
	w.refused("a view below, no changes", s, 2, with(func(m *api.Msg) { m.News = nil }), api.ErrView)
	w.refused("its view, no changes", s, 0, with(func(m *api.Msg) { m.View, m.News = 3, nil }), api.ErrChange)
	// What is refused is refused while it is ready, too.
	w.hears(s, 0, w.begins(3, w.change(3), 0, 1, 2))
	w.refused("its view, no changes, begun", s, 0, with(func(m *api.Msg) { m.View, m.News = 3, nil }), api.ErrChange)
}

func TestASlotKeepsWhatItAccepted(t *testing.T) {
	w := four(t)
	none, b := batch.None(), w.asks(0)
	s := w.node(3)
	if err := s.Load(accepted(14, 1, b)); err != api.OK {
		t.Fatal(int(err))
	}
	w.viewIs("one slot", s, 1, false)
	w.saidIs("the other slot", w.hears(s, 2, w.begins(1, w.change(1), 0, 1, 2)), []api.Rec{accepted(10, 1, none)}, w.prepare(1, 10, none))
	w.viewIs("both slots", s, 1, true)
	if !slices.EqualFunc(s.Batches(), []api.Batch{none, b}, batch.Same) {
		t.Errorf("%v", s.Batches())
	}
	// One that has accepted just that says nothing more of it.
	s = w.loads(3, []api.Rec{accepted(10, 1, none)})
	w.saidIs("the other slot alone", w.hears(s, 2, w.begins(1, w.change(1), 0, 1, 2)), []api.Rec{accepted(14, 1, none)}, w.prepare(1, 14, none))
	// Likewise who begins a view.
	s = w.node(2)
	if err := s.Load(accepted(10, 1, b)); err != api.OK {
		t.Fatal(int(err))
	}
	for _, n := range []int{0, 1, 3} {
		s.changes[n] = heard{change: api.Change{Epoch: 3, Leader: 1, View: 1}, sealed: w.seal(n, w.change(1))}
	}
	var out api.Said
	s.begin(&out)
	w.saidIs("begun", out, []api.Rec{accepted(14, 1, none)}, w.begins(1, w.change(1), 0, 1, 3), w.prepare(1, 14, none))
}

// To go on waits until all slots have accepted one.

func TestNothingIsHeldUntilReady(t *testing.T) {
	w := four(t)
	none := batch.None()
	s := w.node(3)
	for _, slot := range []int{10, 14} {
		for _, n := range []int{0, 1} {
			w.hears(s, n, w.prepare(1, slot, none))
		}
	}
	h10, h14 := w.held(1, 10, none, 0, 1, 3), w.held(1, 14, none, 0, 1, 3)
	w.saidIs("the last slot makes it ready", w.hears(s, 2, w.begins(1, w.change(1), 0, 1, 2)),
		[]api.Rec{w.goes(1), accepted(10, 1, none), accepted(14, 1, none), holds(h14)}, w.prepare(1, 10, none), w.prepare(1, 14, none), w.commit(1, 14, none))
	w.saidIs("a vote goes on with the first one", w.hears(s, 1, w.prepare(1, 10, none)), []api.Rec{holds(h10)}, w.commit(1, 10, none))
	// While it is not ready, nothing is held, whatever comes.
	s = w.node(3)
	b := w.asks(0)
	if err := s.Load(accepted(10, 2, b)); err != api.OK {
		t.Fatal(int(err))
	}
	for _, n := range []int{0, 1, 2} {
		w.saidIs("not ready", w.hears(s, n, w.prepare(2, 10, b)), nil)
	}
}

// A view takes along what was held.

func TestGoToTakesAlong(t *testing.T) {
	w := four(t)
	a, b := w.asks(0), w.asks(2)
	s := w.node(3)
	for slot, x := range map[int]api.Batch{14: b, 10: a} {
		w.hears(s, 1, w.propose(slot, x))
		w.hears(s, 0, w.prepare(0, slot, x))
		w.hears(s, 1, w.prepare(0, slot, x))
	}
	h10, h14 := w.held(0, 10, a, 0, 1, 3), w.held(0, 14, b, 0, 1, 3)
	w.quiet("view 0", s, 11)
	w.saidIs("both slots", s.Tick(), []api.Rec{w.goes(1)}, w.change(1, h10, h14))
	// In view 1 slot 14 is prepared anew, slot 10 is not.
	w.hears(s, 2, w.begins(1, w.change(1, h10, h14), 0, 2, 3))
	w.hears(s, 0, w.prepare(1, 14, b))
	anew := w.held(1, 14, b, 0, 2, 3)
	w.saidIs("held anew", w.hears(s, 2, w.prepare(1, 14, b)), []api.Rec{holds(anew)}, w.commit(1, 14, b))
	w.hears(s, 0, w.change(4))
	w.saidIs("by others", w.hears(s, 1, w.change(4)), []api.Rec{w.goes(4)}, w.change(4, h10, anew))
	// What was decided meanwhile is taken along as well.
	w.hears(s, 0, w.entry(1, 14, b, 0, 1, 2))
	w.hears(s, 0, w.change(8))
	w.saidIs("decided", w.hears(s, 1, w.change(8)), []api.Rec{w.goes(8)}, w.change(8, h10, anew))
}

func TestWhoIsDoneGoesAlong(t *testing.T) {
	w := four(t)
	none := batch.None()
	s := w.node(3)
	for _, slot := range []int{10, 14} {
		w.hears(s, 0, w.entry(0, slot, none, 0, 1, 2))
	}
	w.hears(s, 0, w.change(1))
	w.saidIs("its change", w.hears(s, 1, w.change(1)), []api.Rec{w.goes(1)}, w.change(1))
	w.saidIs("its votes", w.hears(s, 2, w.begins(1, w.change(1), 0, 1, 2)), []api.Rec{accepted(10, 1, none), accepted(14, 1, none)},
		w.prepare(1, 10, none), w.prepare(1, 14, none))
}

// P20.3: MsgEntry

func TestHearEntry(t *testing.T) {
	w := four(t)
	b := w.asks(0)
	c := w.cert(api.Commit, 3, 10, b, 0, 1, 3)
	for from := range 4 {
		s := w.node(2)
		w.saidIs("any node's, me's too", w.hears(s, from, w.entry(3, 10, b, 0, 1, 3)), []api.Rec{decided(b, c)})
		w.entryIs("decided", s, 10, b, c)
		w.saidIs("again", w.hears(s, from, w.entry(3, 10, b, 0, 1, 3)), nil)
		w.saidIs("with another cert", w.hears(s, from, w.entry(4, 10, b, 0, 1, 2, 3)), nil)
		w.entryIs("the first cert stays", s, 10, b, c)
		w.refused("another one", s, from, w.entry(5, 10, batch.None(), 0, 1, 2), api.ErrOther)
	}
	s := w.node(2)
	w.refused("Prepares", s, 0, w.bytes(api.Msg{Kind: api.MsgEntry, Batch: b, Cert: w.cert(api.Prepare, 0, 10, b, 0, 1, 2)}), api.ErrChange)
	w.refused("another batch's", s, 0, w.bytes(api.Msg{Kind: api.MsgEntry, Batch: w.asks(2), Cert: c}), api.ErrChange)
	w.refused("no slot of the epoch", s, 0, w.entry(0, 17, b, 0, 1, 2), api.ErrChange)
	w.refused("few signs", s, 0, w.entry(0, 10, b, 0, 1), api.ErrSigns)
	w.refused("another leader's slot", s, 0, w.entry(0, 11, b, 0, 1, 2), api.ErrOwner)
	w.refused("another leader's slot, few signs", s, 0, w.entry(0, 11, b, 0, 1), api.ErrSigns)
}

// P20.5

// againIs tests what is said again.
func (w world) againIs(name string, s *Segment, bodies ...string) {
	w.t.Helper()
	if got := s.Again(); !slices.Equal(got, bodies) {
		w.t.Errorf("%s: %x, want %x", name, got, bodies)
	}
}

func TestAgainInViewZero(t *testing.T) {
	w := four(t)
	a, b := w.asks(0), w.asks(2)
	for _, me := range []int{0, 1} {
		s := w.node(me)
		w.againIs("at first", s)
		ahead := func(slot int, x api.Batch, l ...string) []string {
			if me == 1 {
				l = append([]string{w.propose(slot, x)}, l...)
			}
			return l
		}
		if me == 1 {
			s.Propose(a)
			s.Propose(b)
		} else {
			w.hears(s, 1, w.propose(14, b))
			w.againIs("one slot", s, w.prepare(0, 14, b))
			w.hears(s, 1, w.propose(10, a))
		}
		w.againIs("both slots", s, append(ahead(10, a, w.prepare(0, 10, a)), ahead(14, b, w.prepare(0, 14, b))...)...)
		for _, n := range []int{2, 3} {
			w.hears(s, n, w.prepare(0, 10, a))
		}
		w.againIs("one is held", s, append(ahead(10, a, w.prepare(0, 10, a), w.commit(0, 10, a)), ahead(14, b, w.prepare(0, 14, b))...)...)
		w.hears(s, 3, w.entry(0, 10, a, 1, 2, 3))
		w.againIs("one is decided", s, ahead(14, b, w.prepare(0, 14, b))...)
		w.hears(s, 3, w.entry(0, 14, b, 1, 2, 3))
		w.againIs("done", s)
	}
}

func TestAgainInLaterViews(t *testing.T) {
	w := four(t)
	none, b := batch.None(), w.asks(0)
	h := w.held(0, 10, b, 0, 1, 3)
	s := w.node(3)
	w.hears(s, 1, w.propose(10, b))
	w.hears(s, 0, w.prepare(0, 10, b))
	w.hears(s, 1, w.prepare(0, 10, b))
	w.againIs("held in view 0", s, w.prepare(0, 10, b), w.commit(0, 10, b))
	w.hears(s, 0, w.change(1))
	w.hears(s, 1, w.change(1))
	// What was said in view 0 is not said again; the change is, until the view has begun.
	w.againIs("not ready", s, w.change(1, h))
	w.hears(s, 2, w.begins(1, w.change(1, h), 0, 1, 2))
	w.againIs("begun", s, w.prepare(1, 10, b), w.prepare(1, 14, none))
	w.hears(s, 2, w.prepare(1, 14, none))
	w.hears(s, 1, w.prepare(1, 14, none))
	w.againIs("held in view 1", s, w.prepare(1, 10, b), w.prepare(1, 14, none), w.commit(1, 14, none))
	w.hears(s, 0, w.entry(1, 10, b, 0, 1, 2))
	w.againIs("one decided", s, w.prepare(1, 14, none), w.commit(1, 14, none))
	w.hears(s, 0, w.change(3))
	w.hears(s, 1, w.change(3))
	w.againIs("not ready again", s, w.change(3, h, w.held(1, 14, none, 1, 2, 3)))
}

func TestAgainOfWhoBegan(t *testing.T) {
	w := four(t)
	none := batch.None()
	s := w.node(2)
	w.hears(s, 0, w.change(1))
	w.hears(s, 3, w.change(1))
	news := w.begins(1, w.change(1), 0, 2, 3)
	w.againIs("begun", s, w.prepare(1, 10, none), w.prepare(1, 14, none), news)
	w.hears(s, 0, w.entry(1, 10, none, 0, 1, 3))
	w.againIs("one is decided", s, w.prepare(1, 14, none), news)
	w.hears(s, 0, w.change(3))
	w.hears(s, 3, w.change(3))
	w.againIs("another one leads", s, w.change(3))
	// The leader itself leads view 4, in which it proposes no more.
	s = w.node(1)
	s.Propose(w.asks(0))
	w.hears(s, 0, w.change(4))
	w.hears(s, 3, w.change(4))
	w.againIs("the leader leads it", s, w.prepare(4, 10, none), w.prepare(4, 14, none), w.begins(4, w.change(4), 0, 1, 3))
	w.hears(s, 3, w.entry(0, 10, none, 0, 1, 3))
	w.hears(s, 3, w.entry(0, 14, none, 0, 1, 3))
	w.againIs("done", s)
}

func TestAgainWithoutAChange(t *testing.T) {
	w := four(t)
	b := w.asks(0)
	s := w.node(3)
	if err := s.Load(accepted(10, 3, b)); err != api.OK {
		t.Fatal(int(err))
	}
	// It is in view 3, which it has not gone to by a change, and which has not begun.
	w.viewIs("loaded", s, 3, false)
	w.againIs("loaded", s)
}

// Rule 6: views at the ends.

func TestGreatestViews(t *testing.T) {
	w := four(t)
	s := w.node(3)
	w.hears(s, 0, w.change(api.MaxNum))
	w.saidIs("the greatest view", w.hears(s, 1, w.change(api.MaxNum)), []api.Rec{w.goes(api.MaxNum)}, w.change(api.MaxNum))
	w.quiet("the greatest view", s, 11)
	// The next one has no bytes: nothing is said of it, and nobody else comes there.
	w.saidIs("one beyond", s.Tick(), []api.Rec{w.goes(api.MaxNum + 1)})
	w.againIs("one beyond", s)
	w.quiet("one beyond", s, 40)
	s = w.node(3)
	for _, slot := range []int{10, 14} {
		if err := s.Load(accepted(slot, math.MaxInt, batch.None())); err != api.OK {
			t.Fatal(int(err))
		}
	}
	w.viewIs("the greatest number", s, math.MaxInt, true)
	w.quiet("the greatest number", s, 40)
	w.againIs("the greatest number", s)
	w.viewIs("the greatest number", s, math.MaxInt, true)
}
