package segment

import (
	"math"
	"slices"
	"testing"

	"raddle/api"
	"raddle/batch"
	"raddle/message"
	"raddle/slot"
)

// loads is a new segment of a node that took those records.
func (w world) loads(me int, l []api.Rec) *Segment {
	w.t.Helper()
	s := w.node(me)
	for i, r := range l {
		if err := s.Load(r); err != api.OK {
			w.t.Fatalf("record %d of %v: %d", i, l, int(err))
		}
	}
	return s
}

// withoutNews is what is said again, but for a MsgNew.
func withoutNews(l []string) []string {
	return slices.DeleteFunc(slices.Clone(l), func(body string) bool {
		m, err := message.Decode(body)
		return err == api.OK && m.Kind == api.MsgNew
	})
}

// cameBack tests that a segment that took records has what the one that said them has.
func (w world) cameBack(name string, was, is *Segment) {
	w.t.Helper()
	for _, number := range was.order {
		if !slot.Same(was.parts[number].slot, is.parts[number].slot) {
			w.t.Fatalf("%s: slot %d was %+v, is %+v", name, number, was.parts[number].slot, is.parts[number].slot)
		}
		for _, kind := range []int{api.Prepare, api.Commit} {
			v, tag, there := was.parts[number].book.Of(kind, was.me)
			if x, xTag, xThere := is.parts[number].book.Of(kind, is.me); x != v || xTag != tag || xThere != there {
				w.t.Fatalf("%s: me's vote in slot %d was %v, is %v", name, number, v, x)
			}
		}
	}
	view, ready := was.View()
	w.viewIs(name, is, view, ready)
	if a, b := withoutNews(was.Again()), withoutNews(is.Again()); !slices.Equal(a, b) || len(b) != len(is.Again()) {
		w.t.Fatalf("%s: again was %x, is %x", name, a, is.Again())
	}
	if was.Next() != is.Next() || was.Open() != is.Open() || !slices.EqualFunc(was.Batches(), is.Batches(), batch.Same) {
		w.t.Fatalf("%s: was %+v, is %+v", name, look(was), look(is))
	}
}

// P20.6

// story is a node's life, step by step, through all that it may keep.
func story(w world, me int) []func(s *Segment) api.Said {
	a, b, none := w.asks(0), w.asks(2), batch.None()
	hear := func(from int, body string) func(s *Segment) api.Said {
		return func(s *Segment) api.Said { return w.hears(s, from, body) }
	}
	h := w.held(0, 10, a, 0, 1, me)
	return []func(s *Segment) api.Said{
		hear(1, w.propose(10, a)),
		hear(0, w.prepare(0, 10, a)),
		hear(1, w.prepare(0, 10, a)),
		hear(1, w.propose(14, b)),
		hear(0, w.change(1)),
		hear(1, w.change(1)),
		hear(2, w.begins(1, w.change(1, h), 0, 1, 2)),
		hear(0, w.prepare(1, 14, none)),
		hear(2, w.prepare(1, 14, none)),
		hear(0, w.change(3)),
		hear(1, w.change(3)),
		hear(0, w.entry(1, 14, none, 0, 1, 2)),
		hear(2, w.begins(5, w.change(5, h), 0, 1, 2)),
		hear(0, w.prepare(5, 10, a)),
		hear(2, w.prepare(5, 10, a)),
		hear(0, w.change(7)),
		hear(1, w.change(7)),
		hear(0, w.entry(5, 10, a, 0, 1, 2)),
	}
}

func TestLoad(t *testing.T) {
	w := four(t)
	s := w.node(3)
	var kept []api.Rec
	kinds := map[int]int{}
	for i, step := range story(w, 3) {
		said := step(s)
		kept = append(kept, said.Recs...)
		for _, r := range said.Recs {
			kinds[r.Kind]++
		}
		w.cameBack("step "+string(rune('a'+i))+", all records", s, w.loads(3, kept))
		w.cameBack("step "+string(rune('a'+i))+", Recs", s, w.loads(3, s.Recs()))
		if a, b := s.Recs(), w.loads(3, s.Recs()).Recs(); !slices.EqualFunc(a, b, sameRec) {
			t.Fatalf("step %d: Recs %v, then %v", i, a, b)
		}
	}
	for kind := api.RecAccept; kind <= api.RecEntry; kind++ {
		if kinds[kind] < 2 {
			t.Errorf("records of the kind %d: %d", kind, kinds[kind])
		}
	}
	if s.Open() != 0 {
		t.Error("the story has no end")
	}
}

func TestRecs(t *testing.T) {
	w := four(t)
	a, b, none := w.asks(0), w.asks(2), batch.None()
	h, anew := w.held(0, 10, a, 0, 1, 3), w.held(1, 14, none, 0, 2, 3)
	want := [][]api.Rec{
		{accepted(10, 0, a)},
		{accepted(10, 0, a)},
		{accepted(10, 0, a), holds(h)},
		{accepted(10, 0, a), holds(h), accepted(14, 0, b)},
		{accepted(10, 0, a), holds(h), accepted(14, 0, b)},
		{accepted(10, 0, a), holds(h), w.goes(1), accepted(14, 0, b)},
		{accepted(10, 0, a), holds(h), w.goes(1), accepted(10, 1, a), accepted(14, 1, none)},
		{accepted(10, 0, a), holds(h), w.goes(1), accepted(10, 1, a), accepted(14, 1, none)},
		{accepted(10, 0, a), holds(h), accepted(14, 1, none), holds(anew), w.goes(1), accepted(10, 1, a)},
		{accepted(10, 0, a), holds(h), accepted(14, 1, none), holds(anew), w.goes(1), accepted(10, 1, a)},
		{accepted(10, 0, a), holds(h), accepted(14, 1, none), holds(anew), w.goes(3), accepted(10, 1, a)},
		{accepted(10, 0, a), holds(h), accepted(14, 1, none), holds(anew), w.goes(3), accepted(10, 1, a), decided(none, w.cert(api.Commit, 1, 14, none, 0, 1, 2))},
	}
	s := w.node(3)
	for i, step := range story(w, 3)[:len(want)] {
		step(s)
		if got := s.Recs(); !slices.EqualFunc(got, want[i], sameRec) {
			t.Errorf("step %d: %v, want %v", i, got, want[i])
		}
	}
	// What is decided, and was never accepted, has its entry alone.
	s = w.node(3)
	w.hears(s, 0, w.entry(0, 14, b, 0, 1, 2))
	if got := s.Recs(); !slices.EqualFunc(got, []api.Rec{decided(b, w.cert(api.Commit, 0, 14, b, 0, 1, 2))}, sameRec) {
		t.Errorf("%v", got)
	}
}

func TestLoadRefuses(t *testing.T) {
	w := four(t)
	a, b := w.asks(0), w.asks(2)
	h := w.held(1, 10, a, 0, 1, 2)
	entry := decided(a, w.cert(api.Commit, 1, 10, a, 0, 1, 2))
	made := func(t *testing.T) *Segment { return w.loads(3, []api.Rec{accepted(10, 1, a), entry}) }
	in := func(slot int, r api.Rec) api.Rec {
		r.Cert.Vote.Slot, r.Slot = slot, slot
		return r
	}
	of := func(kind int, r api.Rec) api.Rec {
		r.Kind = kind
		return r
	}
	for _, x := range []struct {
		name string
		r    api.Rec
		want api.Errno
	}{
		{"the kind 0", of(0, entry), api.ErrRecord},
		{"a state", of(api.RecState, entry), api.ErrRecord},
		{"the kind 6", of(6, entry), api.ErrRecord},
		{"the kind -1", of(-1, entry), api.ErrRecord},
		{"the greatest kind", of(math.MaxInt, entry), api.ErrRecord},
		{"another leader", api.Rec{Kind: api.RecView, Leader: 2, View: 1}, api.ErrRecord},
		{"leader 0", api.Rec{Kind: api.RecView, View: 1}, api.ErrRecord},
		{"leader -1", api.Rec{Kind: api.RecView, Leader: -1, View: 1}, api.ErrRecord},
		{"accepted in another leader's slot", accepted(11, 1, a), api.ErrRecord},
		{"accepted in slot 0", accepted(0, -1, a), api.ErrRecord},
		{"accepted in no slot", accepted(math.MinInt, 1, a), api.ErrRecord},
		{"held in another leader's slot", in(11, holds(h)), api.ErrRecord},
		{"held in slot 18", in(18, holds(h)), api.ErrRecord},
		{"decided in another leader's slot", in(9, entry), api.ErrRecord},
		{"decided in no slot", in(math.MaxInt, entry), api.ErrRecord},
		{"another one accepted", accepted(10, 1, b), api.ErrOther},
		{"accepted in the view below", accepted(10, 0, a), api.ErrView},
		{"accepted in view -1", accepted(14, -1, a), api.ErrView},
		{"held where none is accepted", in(14, holds(h)), api.ErrView},
		{"held of another view", holds(w.held(0, 10, a, 0, 1, 2)), api.ErrView},
		{"another one held", holds(w.held(1, 10, b, 0, 1, 2)), api.ErrOther},
		{"Commits held", api.Rec{Kind: api.RecHeld, Batch: a, Cert: entry.Cert}, api.ErrOther},
		{"Prepares decided", of(api.RecEntry, holds(h)), api.ErrOther},
		{"another one decided", decided(b, w.cert(api.Commit, 1, 10, b, 0, 1, 2)), api.ErrOther},
		{"decided by another one's cert", decided(b, entry.Cert), api.ErrOther},
	} {
		s := made(t)
		before := look(s)
		if err := s.Load(x.r); err != x.want {
			t.Errorf("%s: %d, want %d", x.name, int(err), int(x.want))
		}
		if !before.same(look(s)) {
			t.Errorf("%s: it is refused, and changed something", x.name)
		}
	}
}

func TestLoadViews(t *testing.T) {
	w := four(t)
	b := w.asks(0)
	s := w.node(3)
	for _, x := range []struct {
		r    api.Rec
		want int
	}{
		{w.goes(-1), 0}, {w.goes(math.MinInt), 0}, {w.goes(0), 0}, {accepted(14, 0, b), 0},
		{w.goes(3), 3}, {w.goes(2), 3}, {accepted(10, 2, b), 3}, {accepted(10, 5, b), 5}, {w.goes(4), 5}, {accepted(14, 5, b), 5}, {w.goes(6), 6},
	} {
		if err := s.Load(x.r); err != api.OK {
			t.Fatalf("%v: %d", x.r, int(err))
		}
		if view, _ := s.View(); view != x.want {
			t.Errorf("%v: view %d, want %d", x.r, view, x.want)
		}
	}
}

func TestLoadedVotesCount(t *testing.T) {
	w := four(t)
	b := w.asks(0)
	s := w.loads(3, []api.Rec{accepted(10, 0, b)})
	w.saidIs("one vote", w.hears(s, 0, w.prepare(0, 10, b)), nil)
	h := w.held(0, 10, b, 0, 1, 3)
	w.saidIs("the quorum's with me's", w.hears(s, 1, w.prepare(0, 10, b)), []api.Rec{holds(h)}, w.commit(0, 10, b))
	s = w.loads(3, []api.Rec{accepted(10, 0, b), holds(h)})
	w.saidIs("one Commit", w.hears(s, 0, w.commit(0, 10, b)), nil)
	w.saidIs("the quorum's Commits with me's", w.hears(s, 1, w.commit(0, 10, b)), []api.Rec{decided(b, w.cert(api.Commit, 0, 10, b, 0, 1, 3))})
}

func TestLoadedChangeIsWhatItWas(t *testing.T) {
	w := four(t)
	b, none := w.asks(0), batch.None()
	h := w.held(0, 10, b, 0, 1, 2)
	s := w.loads(2, []api.Rec{accepted(10, 0, b), holds(h), w.goes(1)})
	w.againIs("the change", s, w.change(1, h))
	w.hears(s, 0, w.change(1))
	said := w.hears(s, 3, w.change(1))
	news := w.bytes(api.Msg{Kind: api.MsgNew, Epoch: 3, Leader: 1, View: 1, News: []api.Envelope{w.seal(0, w.change(1)), w.seal(2, w.change(1, h)), w.seal(3, w.change(1))}})
	w.saidIs("begun with it", said, []api.Rec{accepted(10, 1, b), accepted(14, 1, none)}, news, w.prepare(1, 10, b), w.prepare(1, 14, none))
	// What is said again behind a failure has no MsgNew, until it begins a view again.
	s = w.loads(2, s.Recs())
	w.againIs("behind a failure", s, w.prepare(1, 10, b), w.prepare(1, 14, none))
}

func TestLoadSaysNothing(t *testing.T) {
	w := four(t)
	b := w.asks(0)
	// All others have voted: Load does not go on, the next vote does.
	s := w.node(3)
	for _, n := range []int{0, 1, 2} {
		w.hears(s, n, w.prepare(0, 10, b))
		w.hears(s, n, w.commit(0, 10, b))
	}
	if err := s.Load(accepted(10, 0, b)); err != api.OK {
		t.Fatal(int(err))
	}
	if got := s.Recs(); !slices.EqualFunc(got, []api.Rec{accepted(10, 0, b)}, sameRec) || s.Open() != 2 {
		t.Errorf("%v", got)
	}
	if said := w.hears(s, 0, w.commit(0, 10, b)); len(said.Recs) != 2 || s.Open() != 1 {
		t.Errorf("%v", said)
	}
}
