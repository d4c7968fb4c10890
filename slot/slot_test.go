package slot

import (
	"math"
	"slices"
	"testing"

	"raddle/api"
	"raddle/batch"
)

// asks is a batch of one request, by which one is told from another.
func asks(num int) api.Batch {
	return api.Batch{Requests: []api.Request{{Client: 1, Num: num, Data: "data", Tag: api.Tag{byte(num)}}}}
}

// cert is a cert of a batch, in slot 3 of epoch 1; the signs tell one from another.
func cert(kind, view int, b api.Batch, nodes ...int) api.Cert {
	c := api.Cert{Vote: api.Vote{Kind: kind, Epoch: 1, View: view, Slot: 3, Digest: batch.Digest(b)}}
	for _, n := range nodes {
		c.Signs = append(c.Signs, api.Sign{Node: n, Tag: api.Tag{byte(n), byte(view)}})
	}
	return c
}

// full is a slot of which each field has something: it accepted batch 2 in view 5, holds batch 1 of view 4, and batch 9 is decided.
func full() Slot {
	return Slot{
		View: 5, Batch: asks(2), Is: true,
		Held: api.Held{Batch: asks(1), Cert: cert(api.Prepare, 4, asks(1), 0, 1, 2)}, Holds: true,
		Entry: api.Entry{Slot: 3, Batch: asks(9), Cert: cert(api.Commit, 2, asks(9), 1, 2, 3)}, Decided: true,
	}
}

// with is a slot with something changed.
func with(s Slot, change func(s *Slot)) Slot {
	change(&s)
	return s
}

// is tests an answer that must be that slot. What is told field by field does not lean on Same.
func is(t *testing.T, name string, got Slot, err api.Errno, want Slot) {
	t.Helper()
	if err != api.OK || !plainSame(got, want) {
		t.Errorf("%s: %+v %d, want %+v", name, got, int(err), want)
	}
}

// refused tests an answer that must be an error, and the zero slot.
func refused(t *testing.T, name string, got Slot, err, want api.Errno) {
	t.Helper()
	if err != want || !plainSame(got, Slot{}) {
		t.Errorf("%s: %+v %d, want the zero slot and %d", name, got, int(err), int(want))
	}
}

func plainSame(a, b Slot) bool {
	batches := func(x, y api.Batch) bool { return x.Noop == y.Noop && slices.Equal(x.Requests, y.Requests) }
	certs := func(x, y api.Cert) bool { return x.Vote == y.Vote && slices.Equal(x.Signs, y.Signs) }
	return a.View == b.View && a.Is == b.Is && batches(a.Batch, b.Batch) &&
		a.Holds == b.Holds && batches(a.Held.Batch, b.Held.Batch) && certs(a.Held.Cert, b.Held.Cert) &&
		a.Decided == b.Decided && a.Entry.Slot == b.Entry.Slot && batches(a.Entry.Batch, b.Entry.Batch) && certs(a.Entry.Cert, b.Entry.Cert)
}

// The chapter's example.

func TestExample(t *testing.T) {
	x := asks(1)
	s, err := Accept(Slot{}, 0, x)
	is(t, "Accept", s, err, Slot{Batch: x, Is: true})
	none, err := Hold(s, cert(api.Prepare, 1, x))
	refused(t, "Hold of view 1", none, err, api.ErrView)
	c := cert(api.Prepare, 0, x, 0, 1, 2)
	s, err = Hold(s, c)
	is(t, "Hold", s, err, Slot{Batch: x, Is: true, Held: api.Held{Batch: x, Cert: c}, Holds: true})
}

// P18.1: Accept

func TestAcceptFirst(t *testing.T) {
	for _, x := range []api.Batch{batch.None(), {}, asks(1), {Noop: true, Requests: asks(1).Requests}, {Requests: []api.Request{{Client: -1, Num: math.MinInt}}}} {
		for _, view := range []int{0, 1, api.MaxNum, api.MaxNum + 1, math.MaxInt} {
			s, err := Accept(Slot{}, view, x)
			is(t, "the first one", s, err, Slot{View: view, Batch: x, Is: true})
		}
	}
	// A slot that is not Is has accepted nothing, whatever its View and Batch are.
	odd := with(full(), func(s *Slot) { s.Is = false })
	for _, view := range []int{0, 4, 5, 6} {
		s, err := Accept(odd, view, asks(7))
		is(t, "not Is", s, err, with(full(), func(s *Slot) { s.View, s.Batch = view, asks(7) }))
	}
}

func TestAcceptViews(t *testing.T) {
	for _, x := range []struct {
		name string
		view int
		b    api.Batch
		want Slot
		err  api.Errno
	}{
		{"the same", 5, asks(2), full(), api.OK},
		{"another one in that view", 5, asks(3), Slot{}, api.ErrOther},
		{"nothing in that view", 5, batch.None(), Slot{}, api.ErrOther},
		{"no requests in that view", 5, api.Batch{}, Slot{}, api.ErrOther},
		{"what it holds, in that view", 5, asks(1), Slot{}, api.ErrOther},
		{"what is decided, in that view", 5, asks(9), Slot{}, api.ErrOther},
		{"the view below", 4, asks(2), Slot{}, api.ErrView},
		{"another one in the view below", 4, asks(3), Slot{}, api.ErrView},
		{"view 0", 0, asks(2), Slot{}, api.ErrView},
		{"view -1", -1, asks(2), Slot{}, api.ErrView},
		{"the least view", math.MinInt, asks(3), Slot{}, api.ErrView},
		{"the next view", 6, asks(3), with(full(), func(s *Slot) { s.View, s.Batch = 6, asks(3) }), api.OK},
		{"the same in the next view", 6, asks(2), with(full(), func(s *Slot) { s.View = 6 }), api.OK},
		{"nothing in the greatest view", math.MaxInt, batch.None(), with(full(), func(s *Slot) { s.View, s.Batch = math.MaxInt, batch.None() }), api.OK},
	} {
		got, err := Accept(full(), x.view, x.b)
		if x.err != api.OK {
			refused(t, x.name, got, err, x.err)
			continue
		}
		is(t, x.name, got, err, x.want)
	}
}

func TestAcceptBelowZero(t *testing.T) {
	for _, view := range []int{-1, -2, math.MinInt} {
		got, err := Accept(Slot{}, view, asks(1))
		refused(t, "a new slot", got, err, api.ErrView)
		// A view below 0 is refused even where the slot has that view itself.
		got, err = Accept(Slot{View: view, Batch: asks(1), Is: true}, view, asks(1))
		refused(t, "the same view", got, err, api.ErrView)
		got, err = Accept(Slot{View: view, Batch: asks(1), Is: true}, view, asks(2))
		refused(t, "the same view, another one", got, err, api.ErrView)
	}
}

func TestAcceptNothingIsNotNoRequests(t *testing.T) {
	s, err := Accept(Slot{}, 2, batch.None())
	is(t, "None", s, err, Slot{View: 2, Batch: batch.None(), Is: true})
	got, err := Accept(s, 2, api.Batch{})
	refused(t, "no requests", got, err, api.ErrOther)
	got, err = Accept(s, 2, batch.None())
	is(t, "None again", got, err, s)
	got, err = Accept(s, 2, api.Batch{Noop: true, Requests: []api.Request{}})
	is(t, "None with an empty list", got, err, s)
	// One digest: the batch that was accepted first stays.
	got, err = Accept(s, 2, api.Batch{Noop: true, Requests: asks(1).Requests})
	is(t, "None with requests", got, err, s)
}

// P18.1: Hold

func TestHoldRefuses(t *testing.T) {
	accepted := Slot{View: 5, Batch: asks(2), Is: true}
	for _, x := range []struct {
		name string
		s    Slot
		c    api.Cert
		want api.Errno
	}{
		{"a Commit", accepted, cert(api.Commit, 5, asks(2)), api.ErrOther},
		{"the kind 0", accepted, cert(0, 5, asks(2)), api.ErrOther},
		{"the kind 3", accepted, cert(3, 5, asks(2)), api.ErrOther},
		{"the kind -1", accepted, cert(-1, 5, asks(2)), api.ErrOther},
		{"the least kind", accepted, cert(math.MinInt, 5, asks(2)), api.ErrOther},
		{"the zero cert", accepted, api.Cert{}, api.ErrOther},
		{"a Commit of another view", accepted, cert(api.Commit, 4, asks(2)), api.ErrOther},
		{"a Commit, nothing accepted", Slot{}, cert(api.Commit, 0, asks(2)), api.ErrOther},
		{"nothing accepted", Slot{}, cert(api.Prepare, 0, api.Batch{}), api.ErrView},
		{"not Is", with(accepted, func(s *Slot) { s.Is = false }), cert(api.Prepare, 5, asks(2)), api.ErrView},
		{"not Is, another one", with(accepted, func(s *Slot) { s.Is = false }), cert(api.Prepare, 5, asks(1)), api.ErrView},
		{"the view below", accepted, cert(api.Prepare, 4, asks(2)), api.ErrView},
		{"the view above", accepted, cert(api.Prepare, 6, asks(2)), api.ErrView},
		{"another one of the view below", accepted, cert(api.Prepare, 4, asks(1)), api.ErrView},
		{"another one of the view above", accepted, cert(api.Prepare, 6, asks(1)), api.ErrView},
		{"the least view", accepted, cert(api.Prepare, math.MinInt, asks(2)), api.ErrView},
		{"another one", accepted, cert(api.Prepare, 5, asks(1)), api.ErrOther},
		{"nothing", accepted, cert(api.Prepare, 5, batch.None()), api.ErrOther},
		{"another one, one is held of a later view", with(full(), func(s *Slot) { s.Held.Cert.Vote.View = 9 }), cert(api.Prepare, 5, asks(1)), api.ErrOther},
		{"what is held, of its view", full(), cert(api.Prepare, 4, asks(1)), api.ErrView},
	} {
		got, err := Hold(x.s, x.c)
		refused(t, x.name, got, err, x.want)
	}
}

func TestHold(t *testing.T) {
	c := cert(api.Prepare, 5, asks(2), 1, 2, 3)
	holds := api.Held{Batch: asks(2), Cert: c}
	for _, x := range []struct {
		name string
		s    Slot
		want Slot
	}{
		{"the first one", Slot{View: 5, Batch: asks(2), Is: true}, Slot{View: 5, Batch: asks(2), Is: true, Held: holds, Holds: true}},
		{"one of the view below is held", full(), with(full(), func(s *Slot) { s.Held = holds })},
		{"one of the least view is held", with(full(), func(s *Slot) { s.Held.Cert.Vote.View = math.MinInt }), with(full(), func(s *Slot) { s.Held = holds })},
		{"not Holds, whatever Held is", with(full(), func(s *Slot) { s.Holds, s.Held.Cert.Vote.View = false, 9 }), with(full(), func(s *Slot) { s.Held = holds })},
	} {
		got, err := Hold(x.s, c)
		is(t, x.name, got, err, x.want)
	}
	for _, view := range []int{5, 6, math.MaxInt} {
		s := with(full(), func(s *Slot) { s.Held.Cert.Vote.View = view })
		got, err := Hold(s, c)
		is(t, "one of that view or a greater one is held", got, err, s)
	}
}

func TestHoldKeepsTheFirstCert(t *testing.T) {
	s, err := Hold(Slot{Batch: asks(2), Is: true}, cert(api.Prepare, 0, asks(2), 0, 1, 2))
	if err != api.OK {
		t.Fatal(int(err))
	}
	got, err := Hold(s, cert(api.Prepare, 0, asks(2), 1, 2, 3))
	is(t, "the same with other signs", got, err, s)
}

func TestHoldTakesCertsAsTheyAre(t *testing.T) {
	// Epoch, Slot and signs are looked at by who asks.
	c := cert(api.Prepare, 0, asks(1))
	c.Vote.Epoch, c.Vote.Slot = math.MinInt, math.MaxInt
	c.Signs = []api.Sign{{Node: -1}, {Node: -1}}
	s := Slot{Batch: asks(1), Is: true}
	got, err := Hold(s, c)
	is(t, "Hold", got, err, with(s, func(s *Slot) { s.Held, s.Holds = api.Held{Batch: asks(1), Cert: c}, true }))
}

// P18.2

func TestDecide(t *testing.T) {
	for _, x := range []struct {
		name string
		s    Slot
	}{
		{"a new slot", Slot{}},
		{"another one accepted", Slot{View: 5, Batch: asks(2), Is: true}},
		{"another one held", Slot{View: 5, Batch: asks(2), Is: true, Held: full().Held, Holds: true}},
		{"not Decided, whatever Entry is", with(full(), func(s *Slot) { s.Decided = false })},
	} {
		for _, b := range []api.Batch{asks(1), batch.None(), {}} {
			for _, view := range []int{0, 7, -1, math.MaxInt} {
				c := cert(api.Commit, view, b, 0, 2, 3)
				got, err := Decide(x.s, b, c)
				is(t, x.name, got, err, with(x.s, func(s *Slot) { s.Entry, s.Decided = api.Entry{Slot: 3, Batch: b, Cert: c}, true }))
			}
		}
	}
	for _, slot := range []int{math.MinInt, -1, 0, 1, math.MaxInt} {
		c := cert(api.Commit, 0, asks(1))
		c.Vote.Slot = slot
		got, err := Decide(Slot{}, asks(1), c)
		is(t, "any slot", got, err, Slot{Entry: api.Entry{Slot: slot, Batch: asks(1), Cert: c}, Decided: true})
	}
}

func TestDecideRefuses(t *testing.T) {
	for _, x := range []struct {
		name string
		b    api.Batch
		c    api.Cert
	}{
		{"a Prepare", asks(9), cert(api.Prepare, 2, asks(9))},
		{"the kind 0", asks(9), cert(0, 2, asks(9))},
		{"the kind 3", asks(9), cert(3, 2, asks(9))},
		{"the greatest kind", asks(9), cert(math.MaxInt, 2, asks(9))},
		{"the zero cert", asks(9), api.Cert{}},
		{"another one's cert", asks(9), cert(api.Commit, 2, asks(8))},
		{"another one with this one's cert", asks(8), cert(api.Commit, 2, asks(9))},
		{"nothing with the cert of no requests", batch.None(), cert(api.Commit, 2, api.Batch{})},
	} {
		for name, s := range map[string]Slot{"a new slot": {}, "a decided one": full()} {
			got, err := Decide(s, x.b, x.c)
			refused(t, x.name+", "+name, got, err, api.ErrOther)
		}
	}
}

func TestDecidedStays(t *testing.T) {
	for _, view := range []int{0, 2, 3, math.MaxInt} {
		got, err := Decide(full(), asks(9), cert(api.Commit, view, asks(9), 0, 1, 2))
		is(t, "the same with another cert", got, err, full())
		for _, b := range []api.Batch{asks(8), batch.None(), {}, asks(2), asks(1)} {
			got, err = Decide(full(), b, cert(api.Commit, view, b))
			refused(t, "another one", got, err, api.ErrOther)
		}
	}
	other := cert(api.Commit, 2, asks(9))
	other.Vote.Slot = 4
	got, err := Decide(full(), asks(9), other)
	is(t, "the same of another slot", got, err, full())
	// It is the batch that is asked, not the cert that stands beside it.
	odd := with(full(), func(s *Slot) { s.Entry.Cert = api.Cert{} })
	got, err = Decide(odd, asks(9), cert(api.Commit, 2, asks(9)))
	is(t, "decided without a cert", got, err, odd)
	got, err = Decide(odd, batch.None(), cert(api.Commit, 2, batch.None()))
	refused(t, "decided without a cert, another one", got, err, api.ErrOther)
}

// P18.3: Known

func TestKnown(t *testing.T) {
	accepted, held, decided := asks(2), asks(1), asks(9)
	for bits := range 8 {
		s := with(full(), func(s *Slot) { s.Is, s.Holds, s.Decided = bits&1 > 0, bits&2 > 0, bits&4 > 0 })
		for _, x := range []struct {
			b    api.Batch
			want bool
		}{{accepted, s.Is}, {held, s.Holds}, {decided, s.Decided}, {asks(3), false}, {batch.None(), false}, {api.Batch{}, false}} {
			want := api.Batch{}
			if x.want {
				want = x.b
			}
			if got, ok := Known(s, batch.Digest(x.b)); ok != x.want || !batch.Same(got, want) {
				t.Errorf("of %d, %v: %v %v", bits, x.b, got, ok)
			}
		}
		if got, ok := Known(s, api.Digest{}); ok || !batch.Same(got, api.Batch{}) {
			t.Errorf("of %d, the zero digest: %v %v", bits, got, ok)
		}
	}
	// The zero fields of a new slot are no batches.
	for _, b := range []api.Batch{{}, batch.None()} {
		if got, ok := Known(Slot{}, batch.Digest(b)); ok || !batch.Same(got, api.Batch{}) {
			t.Errorf("of a new slot: %v %v", got, ok)
		}
	}
}

func TestKnownAsksTheBatches(t *testing.T) {
	// The certs' digests are another batch's.
	s := full()
	s.Held.Cert.Vote.Digest = batch.Digest(asks(4))
	s.Entry.Cert.Vote.Digest = batch.Digest(asks(4))
	if got, ok := Known(s, batch.Digest(asks(4))); ok {
		t.Errorf("what a cert alone has: %v", got)
	}
	for _, b := range []api.Batch{asks(1), asks(2), asks(9)} {
		if got, ok := Known(s, batch.Digest(b)); !ok || !batch.Same(got, b) {
			t.Errorf("%v: %v %v", b, got, ok)
		}
	}
}

func TestKnownInOrder(t *testing.T) {
	// Batches that are nothing have one digest, whatever stands in them: so the first one is told from the others.
	nothing := func(num int) api.Batch { return api.Batch{Noop: true, Requests: asks(num).Requests} }
	d := batch.Digest(batch.None())
	s := Slot{Batch: nothing(2), Is: true, Held: api.Held{Batch: nothing(3)}, Holds: true, Entry: api.Entry{Batch: nothing(1)}, Decided: true}
	for _, x := range []struct {
		name string
		s    Slot
		want api.Batch
	}{
		{"all three", s, nothing(1)},
		{"not decided", with(s, func(s *Slot) { s.Decided = false }), nothing(2)},
		{"another one decided", with(s, func(s *Slot) { s.Entry.Batch = asks(5) }), nothing(2)},
		{"held alone", with(s, func(s *Slot) { s.Decided, s.Is = false, false }), nothing(3)},
		{"others decided and accepted", with(s, func(s *Slot) { s.Entry.Batch, s.Batch = asks(5), asks(6) }), nothing(3)},
		{"decided and held", with(s, func(s *Slot) { s.Is = false }), nothing(1)},
	} {
		if got, ok := Known(x.s, d); !ok || !batch.Same(got, x.want) {
			t.Errorf("%s: %v %v, want %v", x.name, got, ok, x.want)
		}
	}
}

// P18.3: Same

func TestSame(t *testing.T) {
	if !Same(Slot{}, Slot{}) || !Same(full(), full()) || Same(Slot{}, full()) || Same(full(), Slot{}) {
		t.Error("a slot and itself, or another one")
	}
	for i, change := range changes() {
		other := with(full(), change)
		if Same(full(), other) || Same(other, full()) || !Same(other, with(full(), change)) {
			t.Errorf("change %d is not seen", i)
		}
	}
}

// changes are one for each thing that a slot has.
func changes() []func(s *Slot) {
	return []func(s *Slot){
		func(s *Slot) { s.View++ },
		func(s *Slot) { s.View = math.MinInt },
		func(s *Slot) { s.Is = false },
		func(s *Slot) { s.Batch.Noop = true },
		func(s *Slot) { s.Batch.Requests = nil },
		func(s *Slot) { s.Batch = asks(3) },
		func(s *Slot) { s.Batch.Requests = append(asks(2).Requests, asks(3).Requests...) },
		func(s *Slot) { s.Holds = false },
		func(s *Slot) { s.Held.Batch.Noop = true },
		func(s *Slot) { s.Held.Batch = asks(3) },
		func(s *Slot) { s.Held.Cert.Vote.Kind = 2 },
		func(s *Slot) { s.Held.Cert.Vote.Epoch++ },
		func(s *Slot) { s.Held.Cert.Vote.View++ },
		func(s *Slot) { s.Held.Cert.Vote.Slot++ },
		func(s *Slot) { s.Held.Cert.Vote.Digest[31]++ },
		func(s *Slot) { s.Held.Cert.Signs = s.Held.Cert.Signs[:2] },
		func(s *Slot) { s.Held.Cert.Signs = cert(0, 4, asks(1), 0, 1, 3).Signs },
		func(s *Slot) { s.Held.Cert.Signs = cert(0, 3, asks(1), 0, 1, 2).Signs },
		func(s *Slot) { s.Decided = false },
		func(s *Slot) { s.Entry.Slot++ },
		func(s *Slot) { s.Entry.Batch.Noop = true },
		func(s *Slot) { s.Entry.Batch = asks(3) },
		func(s *Slot) { s.Entry.Cert.Vote.Kind = 1 },
		func(s *Slot) { s.Entry.Cert.Vote.Epoch++ },
		func(s *Slot) { s.Entry.Cert.Vote.View++ },
		func(s *Slot) { s.Entry.Cert.Vote.Slot++ },
		func(s *Slot) { s.Entry.Cert.Vote.Digest[0]++ },
		func(s *Slot) { s.Entry.Cert.Signs = nil },
		func(s *Slot) { s.Entry.Cert.Signs = cert(0, 2, asks(1), 0, 2, 3).Signs },
		func(s *Slot) { s.Entry.Cert.Signs = cert(0, 9, asks(1), 1, 2, 3).Signs },
	}
}

func TestSameOfWhatIsNotThere(t *testing.T) {
	// All is looked at, what a false flag stands beside too.
	for i, change := range changes() {
		off := func(s *Slot) { s.Is, s.Holds, s.Decided = false, false, false }
		a, b := with(full(), off), with(with(full(), change), off)
		flag := with(full(), change)
		only := flag.Is && flag.Holds && flag.Decided
		if Same(a, b) == only {
			t.Errorf("change %d: %v", i, Same(a, b))
		}
	}
}

func TestSameOfEmptyLists(t *testing.T) {
	empty := Slot{
		Batch: api.Batch{Requests: []api.Request{}},
		Held:  api.Held{Batch: api.Batch{Requests: []api.Request{}}, Cert: api.Cert{Signs: []api.Sign{}}},
		Entry: api.Entry{Batch: api.Batch{Requests: []api.Request{}}, Cert: api.Cert{Signs: []api.Sign{}}},
	}
	if !Same(empty, Slot{}) || !Same(Slot{}, empty) {
		t.Error("an empty list is not as none")
	}
}

// Rules 4 and 8: what is handed in stays as it is, and what lies behind a list's length is not looked at.

func TestWhatIsHandedInStays(t *testing.T) {
	room := append(asks(2).Requests, asks(3).Requests...)
	signs := cert(0, 5, asks(2), 0, 1, 2, 3).Signs
	was, signsWere := slices.Clone(room), slices.Clone(signs)
	b := api.Batch{Requests: room[:1]}
	c := cert(api.Prepare, 5, asks(2))
	c.Signs = signs[:3]
	s := with(full(), func(s *Slot) { s.Batch, s.Held.Cert.Signs = b, c.Signs })
	before := s
	Accept(s, 5, b)
	Accept(s, 5, asks(3))
	Accept(s, 6, asks(3))
	Hold(s, c)
	c.Vote.Kind = api.Commit
	Decide(s, b, c)
	Decide(Slot{}, b, c)
	Known(s, batch.Digest(b))
	if !Same(s, before) || !plainSame(s, before) || !slices.Equal(room, was) || !slices.Equal(signs, signsWere) {
		t.Error("what was handed in changed")
	}
	if !Same(s, with(s, func(s *Slot) { s.Batch, s.Held.Cert.Signs = asks(2), slices.Clone(c.Signs) })) {
		t.Error("what lies behind a list's length is looked at")
	}
}

// P18.4

// step is one call that may come, of few views and batches, so that they meet.
func step(s Slot, below func(n int) int) (Slot, api.Errno) {
	list := []api.Batch{batch.None(), {}, asks(1), asks(2)}
	view, b, c := below(7)-1, list[below(4)], list[below(4)]
	if below(3) > 0 {
		c = b
	}
	kind := below(3)
	switch below(8) {
	case 0, 1, 2:
		return Accept(s, view, b)
	case 3, 4:
		return Hold(s, cert(api.Prepare, s.View, s.Batch, below(4)))
	case 5:
		return Hold(s, cert(kind, view, b, below(4)))
	case 6:
		return Decide(s, b, cert(kind, view, c, below(4)))
	}
	if s.Decided && below(2) > 0 {
		b = s.Entry.Batch
	}
	return Decide(s, b, cert(api.Commit, view, b, below(4)))
}

func TestOnce(t *testing.T) {
	state := uint32(1)
	below := func(n int) int {
		state = state*1664525 + 1013904223
		return int(state>>16) % n
	}
	met := map[string]int{}
	for range 400 {
		s := Slot{}
		accepted := map[int]api.Digest{}
		for range 40 {
			next, err := step(s, below)
			if err != api.OK {
				if !plainSame(next, Slot{}) {
					t.Fatalf("%d, and %+v", int(err), next)
				}
				met["refused"]++
				continue
			}
			follows(t, s, next, met)
			if first, there := accepted[next.View]; next.Is && there && first != batch.Digest(next.Batch) {
				t.Fatalf("view %d has two batches", next.View)
			}
			if next.Is {
				accepted[next.View] = batch.Digest(next.Batch)
			}
			s = next
		}
	}
	for _, what := range []string{"refused", "accepted", "held", "held anew", "decided", "stayed"} {
		if met[what] == 0 {
			t.Errorf("never %s", what)
		}
	}
}

// follows tests that one slot may come of another.
func follows(t *testing.T, s, next Slot, met map[string]int) {
	t.Helper()
	switch {
	case s.Is && (!next.Is || next.View < s.View):
		t.Fatalf("what is accepted fell: %+v, then %+v", s, next)
	case next.View == s.View && s.Is && !batch.Same(s.Batch, next.Batch):
		t.Fatalf("another batch in one view: %+v, then %+v", s, next)
	case s.Holds && (!next.Holds || next.Held.Cert.Vote.View < s.Held.Cert.Vote.View):
		t.Fatalf("what is held fell: %+v, then %+v", s, next)
	case s.Decided && !plainSame(Slot{Entry: s.Entry, Decided: true}, Slot{Entry: next.Entry, Decided: next.Decided}):
		t.Fatalf("what is decided changed: %+v, then %+v", s, next)
	case next.Holds && (batch.Digest(next.Held.Batch) != next.Held.Cert.Vote.Digest || next.Held.Cert.Vote.View > next.View):
		t.Fatalf("it holds what was not accepted: %+v", next)
	case next.Decided && (batch.Digest(next.Entry.Batch) != next.Entry.Cert.Vote.Digest || next.Entry.Cert.Vote.Kind != api.Commit):
		t.Fatalf("what is decided is not its cert's: %+v", next)
	}
	switch {
	case plainSame(s, next):
		met["stayed"]++
	case next.View != s.View || next.Is != s.Is:
		met["accepted"]++
	case s.Holds && next.Held.Cert.Vote.View > s.Held.Cert.Vote.View:
		met["held anew"]++
	case !s.Holds && next.Holds:
		met["held"]++
	case next.Decided && !s.Decided:
		met["decided"]++
	}
}

// A batch that was accepted and held stays known while later views accept others.

func TestHeldStaysBehindLaterViews(t *testing.T) {
	s, _ := Accept(Slot{}, 0, asks(1))
	c := cert(api.Prepare, 0, asks(1), 0, 1, 2)
	s, _ = Hold(s, c)
	for view := 1; view <= 5; view++ {
		var err api.Errno
		s, err = Accept(s, view, asks(view+1))
		is(t, "a later view", s, err, Slot{View: view, Batch: asks(view + 1), Is: true, Held: api.Held{Batch: asks(1), Cert: c}, Holds: true})
		if got, ok := Known(s, batch.Digest(asks(1))); !ok || !batch.Same(got, asks(1)) {
			t.Errorf("view %d: %v %v", view, got, ok)
		}
		if _, ok := Known(s, batch.Digest(asks(view))); ok != (view == 1) {
			t.Errorf("view %d: what was accepted ahead of it: %v", view, ok)
		}
	}
}
