package segment

import (
	"math"
	"slices"
	"testing"

	"raddle/api"
	"raddle/batch"
	"raddle/epoch"
	"raddle/request"
	"raddle/seal"
	"raddle/window"
)

// P20.1

func TestNew(t *testing.T) {
	w := four(t)
	for me := range 4 {
		for leader := range 4 {
			s, err := New(w.k, w.e, me, leader, w.clients)
			if err != api.OK || s == nil {
				t.Fatalf("New(%d, %d): %d", me, leader, int(err))
			}
			w.viewIs("new", s, 0, true)
			next := 0
			if me == leader {
				next = 9 + leader
			}
			if s.Next() != next || s.Open() != 2 || len(s.Batches()) != 0 || len(s.Again()) != 0 || len(s.Recs()) != 0 {
				t.Errorf("New(%d, %d): %+v", me, leader, look(s))
			}
		}
	}
}

func TestNewRefuses(t *testing.T) {
	w := four(t)
	few := w.e
	few.Leaders = []int{0, 1, 3}
	odd := w.e
	odd.Number = 0
	bad := []api.Window{window.New(), {}}
	for _, x := range []struct {
		name       string
		k          *seal.Keys
		e          epoch.Epoch
		me, leader int
		clients    []api.Window
		want       api.Errno
	}{
		{"no keys", nil, odd, -1, 2, nil, api.ErrNil},
		{"plain keys", &seal.Keys{}, odd, -1, 2, nil, api.ErrNil},
		{"no epoch", w.k, epoch.Epoch{}, -1, 2, nil, api.ErrEpoch},
		{"epoch 0", w.k, odd, -1, 2, nil, api.ErrEpoch},
		{"node -1", w.k, few, -1, 2, nil, api.ErrArg},
		{"node 4", w.k, few, 4, 2, nil, api.ErrArg},
		{"the least node", w.k, few, math.MinInt, 2, nil, api.ErrArg},
		{"the greatest node", w.k, few, math.MaxInt, 2, nil, api.ErrArg},
		{"one who does not lead", w.k, few, 0, 2, nil, api.ErrOwner},
		{"leader -1", w.k, few, 0, -1, nil, api.ErrOwner},
		{"leader 4", w.k, few, 0, 4, nil, api.ErrOwner},
		{"no windows", w.k, few, 0, 1, nil, api.ErrState},
		{"one window", w.k, few, 0, 1, w.clients[:1], api.ErrState},
		{"three windows", w.k, few, 0, 1, append(slices.Clone(w.clients), window.New()), api.ErrState},
		{"one that may not be", w.k, few, 0, 1, bad, api.ErrState},
		{"one with bit 0", w.k, few, 0, 1, []api.Window{{Base: 1, Bits: 1}, window.New()}, api.ErrState},
	} {
		if s, err := New(x.k, x.e, x.me, x.leader, x.clients); s != nil || err != x.want {
			t.Errorf("%s: %v %d, want %d", x.name, s, int(err), int(x.want))
		}
	}
	if _, err := New(w.k, few, 2, 1, w.clients); err != api.OK {
		t.Errorf("one who does not lead may have a leader's slots: %d", int(err))
	}
}

// Rule 4: lists that are handed in are not kept.

func TestNewKeepsCopies(t *testing.T) {
	w := four(t)
	e, clients := w.e, slices.Clone(w.clients)
	e.Leaders = slices.Clone(e.Leaders)
	s, err := New(w.k, e, 1, 1, clients)
	if err != api.OK {
		t.Fatal(int(err))
	}
	clear(e.Leaders)
	clear(clients)
	b := w.asks(0, 1)
	said, err := s.Propose(b)
	if err != api.OK {
		t.Fatal(int(err))
	}
	w.saidIs("Propose", said, []api.Rec{accepted(10, 0, b)}, w.propose(10, b), w.prepare(0, 10, b))
}

// Rule 1, and the end of P20.7: segments that no call made.

func TestThoseThatNoCallMade(t *testing.T) {
	w := four(t)
	for _, s := range []*Segment{nil, {}} {
		if said, err := s.Propose(w.asks(0)); err != api.ErrNil || len(said.Recs)+len(said.Bodies) > 0 {
			t.Errorf("Propose: %v %d", said, int(err))
		}
		for kind := -1; kind <= 9; kind++ {
			if said, err := s.Hear(api.Msg{Kind: kind}, api.Envelope{}); err != api.ErrNil || len(said.Recs)+len(said.Bodies) > 0 {
				t.Errorf("Hear: %v %d", said, int(err))
			}
		}
		for kind := -1; kind <= 6; kind++ {
			if err := s.Load(api.Rec{Kind: kind}); err != api.ErrNil {
				t.Errorf("Load: %d", int(err))
			}
		}
		w.quiet("Tick", s, 30)
		if !look(s).same(seen{}) {
			t.Errorf("%+v", look(s))
		}
	}
}

// P20.2

func TestPropose(t *testing.T) {
	w := four(t)
	s := w.node(1)
	first, second := w.asks(0, 1), api.Batch{}
	said, err := s.Propose(first)
	if err != api.OK {
		t.Fatal(int(err))
	}
	w.saidIs("the first slot", said, []api.Rec{accepted(10, 0, first)}, w.propose(10, first), w.prepare(0, 10, first))
	if s.Next() != 14 {
		t.Errorf("next is %d", s.Next())
	}
	said, err = s.Propose(second)
	if err != api.OK {
		t.Fatal(int(err))
	}
	w.saidIs("the second slot", said, []api.Rec{accepted(14, 0, second)}, w.propose(14, second), w.prepare(0, 14, second))
	if s.Next() != 0 || s.Open() != 2 || !slices.EqualFunc(s.Batches(), []api.Batch{first, second}, batch.Same) {
		t.Errorf("%+v", look(s))
	}
	if said, err := s.Propose(w.asks(4)); err != api.ErrEnd || len(said.Recs)+len(said.Bodies) > 0 {
		t.Errorf("the third one: %v %d", said, int(err))
	}
	if _, err := s.Propose(batch.None()); err != api.ErrEnd {
		t.Errorf("nothing, as the third one: %d", int(err))
	}
}

func TestProposeRefuses(t *testing.T) {
	w := four(t)
	for _, me := range []int{0, 2, 3} {
		s := w.node(me)
		w.hears(s, (me+1)%4, w.change(3))
		if said, err := s.Propose(batch.None()); err != api.ErrOwner || len(said.Recs)+len(said.Bodies) > 0 {
			t.Errorf("node %d: %v %d", me, said, int(err))
		}
	}
	// In another view nothing is proposed, whether slots are left or not.
	for many := range 3 {
		s := w.node(1)
		for i := range many {
			if _, err := s.Propose(w.asks(i)); err != api.OK {
				t.Fatal(int(err))
			}
		}
		w.hears(s, 0, w.change(1))
		w.hears(s, 2, w.change(1))
		w.viewIs("two changes", s, 1, false)
		if _, err := s.Propose(batch.None()); err != api.ErrView || s.Next() != 0 {
			t.Errorf("in view 1, %d proposed: %d", many, int(err))
		}
	}
}

// badBatches are batches with b's errors, for a slot beside one that has accepted requests 0 and 1.
func badBatches(t *testing.T, w world) []struct {
	name string
	b    api.Batch
	want api.Errno
} {
	t.Helper()
	n := w.e.Config.Nodes
	make := func(client, num int) api.Request {
		r, err := request.Make(w.k, n, client, num, "other data")
		if err != api.OK {
			t.Fatal(int(err))
		}
		return r
	}
	foreign, far, old := 0, 0, 0
	for num := 1; foreign == 0 || far == 0 || old == 0; num++ {
		mine := epoch.Bucket(w.e, 0, num) == w.leader
		switch {
		case !mine && num > 60 && foreign == 0:
			foreign = num
		case mine && num >= 41 && far == 0:
			far = num
		case mine && old == 0:
			old = num
		}
	}
	forged := w.request(4)
	forged.Data = "forged"
	client := w.request(4)
	client.Client = 2
	good := w.request(4)
	of := func(l ...api.Request) api.Batch { return api.Batch{Requests: l} }
	return []struct {
		name string
		b    api.Batch
		want api.Errno
	}{
		{"nothing", batch.None(), api.ErrBatch},
		{"nothing with forged requests", api.Batch{Noop: true, Requests: []api.Request{forged}}, api.ErrBatch},
		{"three requests", of(forged, good, w.request(6)), api.ErrBatch},
		{"a forged one", of(good, forged), api.ErrForged},
		{"no such client", of(client), api.ErrRequest},
		{"no number", of(api.Request{}), api.ErrRequest},
		{"one twice", of(good, good), api.ErrTwice},
		{"a forged one behind a foreign one", of(make(0, foreign), forged), api.ErrForged},
		{"a foreign one", of(make(0, foreign)), api.ErrBucket},
		{"a foreign one behind a far one", of(make(0, far), make(0, foreign)), api.ErrFar},
		{"a far one behind a foreign one", of(make(0, foreign), make(0, far)), api.ErrBucket},
		{"a far one", of(good, make(0, far)), api.ErrFar},
		{"a far one behind one that is there", of(w.request(0), make(0, far)), api.ErrFar},
		{"one that is there", of(w.request(0)), api.ErrTwice},
		{"another one that is there, behind a good one", of(good, w.request(1)), api.ErrTwice},
		{"other data under a pair that is there", of(make(0, old)), api.ErrTwice},
	}
}

func TestProposeRefusesBatches(t *testing.T) {
	w := four(t)
	for _, x := range badBatches(t, w) {
		s := w.node(1)
		if _, err := s.Propose(w.asks(0, 1)); err != api.OK {
			t.Fatal(int(err))
		}
		before := look(s)
		if said, err := s.Propose(x.b); err != x.want || len(said.Recs)+len(said.Bodies) > 0 || !before.same(look(s)) {
			t.Errorf("%s: %v %d, want %d", x.name, said, int(err), int(x.want))
		}
	}
}

func TestOldNumbersAreRefused(t *testing.T) {
	w := four(t)
	r := w.request(0)
	w.clients[0].Base = r.Num + 1
	s := w.node(1)
	if _, err := s.Propose(w.asks(1, 0)); err != api.ErrOld {
		t.Errorf("%d", int(err))
	}
	w.refused("heard", w.node(2), 1, w.propose(10, w.asks(0)), api.ErrOld)
	// The window's end goes along with its base.
	last := w.clients[0].Base + w.e.Config.Window - 1
	for num := last; num <= last+8; num++ {
		if epoch.Bucket(w.e, 0, num) != w.leader {
			continue
		}
		far, _ := request.Make(w.k, 4, 0, num, "")
		want := api.ErrFar
		if num <= last {
			want = api.OK
		}
		if _, err := w.node(1).Propose(api.Batch{Requests: []api.Request{far}}); err != want {
			t.Errorf("%d: %d, want %d", num, int(err), int(want))
		}
	}
}

// P20.3

func TestHearKinds(t *testing.T) {
	w := four(t)
	s := w.node(2)
	for _, kind := range []int{math.MinInt, -1, 0, api.MsgMark, api.MsgStatus, api.MsgState, 9, math.MaxInt} {
		for _, from := range []int{0, 2} {
			if said, err := s.Hear(api.Msg{Kind: kind}, api.Envelope{From: from}); err != api.ErrMessage || len(said.Recs)+len(said.Bodies) > 0 {
				t.Errorf("kind %d of %d: %v %d", kind, from, said, int(err))
			}
		}
	}
	for _, kind := range []int{api.MsgPropose, api.MsgVote, api.MsgChange, api.MsgNew} {
		if said, err := s.Hear(api.Msg{Kind: kind}, api.Envelope{From: 2}); err != api.ErrSender || len(said.Recs)+len(said.Bodies) > 0 {
			t.Errorf("kind %d of me: %v %d", kind, said, int(err))
		}
		if _, err := s.Hear(api.Msg{Kind: kind}, api.Envelope{From: 3}); err != api.ErrOwner {
			t.Errorf("kind %d of another one: %d", kind, int(err))
		}
	}
	w.refused("me's vote", s, 2, w.prepare(0, 10, api.Batch{}), api.ErrSender)
	// The leader does not hear its own proposals.
	w.refused("the leader", w.node(1), 1, w.propose(10, api.Batch{}), api.ErrSender)
}

func TestHearPropose(t *testing.T) {
	w := four(t)
	s := w.node(2)
	first, second := w.asks(0, 1), w.asks(2)
	w.saidIs("slot 14", w.hears(s, 1, w.propose(14, second)), []api.Rec{accepted(14, 0, second)}, w.prepare(0, 14, second))
	w.saidIs("slot 10", w.hears(s, 1, w.propose(10, first)), []api.Rec{accepted(10, 0, first)}, w.prepare(0, 10, first))
	w.saidIs("slot 10 again", w.hears(s, 1, w.propose(10, first)), nil)
	if !slices.EqualFunc(s.Batches(), []api.Batch{first, second}, batch.Same) || s.Next() != 0 {
		t.Errorf("%+v", look(s))
	}
	w.refused("another one", s, 1, w.propose(10, w.asks(4)), api.ErrOther)
	w.refused("nothing", s, 1, w.propose(10, batch.None()), api.ErrOther)
	w.refused("no requests", s, 1, w.propose(10, api.Batch{}), api.ErrOther)
	w.refused("the other slot's", s, 1, w.propose(10, second), api.ErrOther)
}

func TestHearProposeRefuses(t *testing.T) {
	w := four(t)
	s := w.node(2)
	b := w.asks(0)
	other := func(do func(m *api.Msg)) string {
		m := api.Msg{Kind: api.MsgPropose, Epoch: 3, Slot: 10, Batch: b}
		do(&m)
		return w.bytes(m)
	}
	w.refused("node 0", s, 0, w.propose(10, b), api.ErrOwner)
	w.refused("node 3", s, 3, w.propose(10, b), api.ErrOwner)
	w.refused("epoch 2", s, 1, other(func(m *api.Msg) { m.Epoch = 2 }), api.ErrOwner)
	w.refused("epoch 4", s, 1, other(func(m *api.Msg) { m.Epoch = 4 }), api.ErrOwner)
	for _, slot := range []int{0, 9, 11, 13, 15, 18, api.MaxNum} {
		w.refused("another slot", s, 1, w.propose(slot, b), api.ErrOwner)
	}
	for _, slot := range []int{math.MinInt, -1, math.MaxInt} {
		if _, err := s.Hear(api.Msg{Kind: api.MsgPropose, Epoch: 3, Slot: slot, Batch: b}, api.Envelope{From: 1}); err != api.ErrOwner {
			t.Errorf("slot %d: %d", slot, int(err))
		}
	}
	w.hears(s, 1, w.propose(10, b))
	w.hears(s, 0, w.change(1))
	w.hears(s, 3, w.change(1))
	w.refused("in view 1, the same", s, 1, w.propose(10, b), api.ErrView)
	w.refused("in view 1, another one", s, 1, w.propose(10, w.asks(2)), api.ErrView)
	w.refused("in view 1, of another node", s, 0, w.propose(10, b), api.ErrOwner)
}

func TestHearProposeRefusesBatches(t *testing.T) {
	w := four(t)
	for _, x := range badBatches(t, w) {
		s := w.node(2)
		w.hears(s, 1, w.propose(14, w.asks(0, 1)))
		before := look(s)
		m := api.Msg{Kind: api.MsgPropose, Epoch: 3, Slot: 10, Batch: x.b}
		if said, err := s.Hear(m, api.Envelope{From: 1}); err != x.want || len(said.Recs)+len(said.Bodies) > 0 || !before.same(look(s)) {
			t.Errorf("%s: %v %d, want %d", x.name, said, int(err), int(x.want))
		}
	}
	// What a slot has accepted itself is no other slot's.
	s := w.node(2)
	w.hears(s, 1, w.propose(10, w.asks(0)))
	w.refused("other requests with one of its own", s, 1, w.propose(10, w.asks(0, 1)), api.ErrOther)
}

func TestHearVoteRefuses(t *testing.T) {
	w := four(t)
	s := w.node(2)
	b := w.asks(0)
	w.hears(s, 1, w.propose(10, b))
	other := func(do func(v *api.Vote)) string {
		v := w.vote(api.Prepare, 0, 10, b)
		do(&v)
		return w.bytes(api.Msg{Kind: api.MsgVote, Vote: v})
	}
	w.refused("epoch 2", s, 1, other(func(v *api.Vote) { v.Epoch = 2 }), api.ErrOwner)
	w.refused("epoch 4", s, 1, other(func(v *api.Vote) { v.Epoch = 4 }), api.ErrOwner)
	for _, slot := range []int{0, 9, 11, 18} {
		w.refused("another slot", s, 1, other(func(v *api.Vote) { v.Slot = slot }), api.ErrOwner)
	}
	w.hears(s, 3, w.prepare(2, 10, b))
	w.refused("another one in that view", s, 3, w.prepare(2, 10, api.Batch{}), api.ErrOther)
	w.refused("an old one", s, 3, w.prepare(1, 10, b), api.ErrOld)
	w.saidIs("the same", w.hears(s, 3, w.prepare(2, 10, b)), nil)
	w.saidIs("the other kind of a view below", w.hears(s, 3, w.commit(1, 10, b)), nil)
	for _, from := range []int{-1, 4, math.MinInt, math.MaxInt} {
		if _, err := s.Hear(api.Msg{Kind: api.MsgVote, Vote: w.vote(api.Prepare, 0, 10, b)}, api.Envelope{From: from}); err != api.ErrArg {
			t.Errorf("of %d: %d", from, int(err))
		}
	}
	if _, err := s.Hear(api.Msg{Kind: api.MsgVote, Vote: w.vote(3, 0, 10, b)}, api.Envelope{From: 3}); err != api.ErrArg {
		t.Errorf("of the kind 3: %d", int(err))
	}
}

// To go on: what votes do.

func TestVotesPrepareAndCommit(t *testing.T) {
	w := four(t)
	s := w.node(2)
	b := w.asks(0)
	w.hears(s, 1, w.propose(10, b))
	w.saidIs("one vote", w.hears(s, 1, w.prepare(0, 10, b)), nil)
	w.saidIs("the same vote", w.hears(s, 1, w.prepare(0, 10, b)), nil)
	w.saidIs("another slot's vote", w.hears(s, 3, w.prepare(0, 14, b)), nil)
	w.saidIs("a vote for another one", w.hears(s, 3, w.prepare(0, 10, api.Batch{})), nil)
	h := w.held(0, 10, b, 0, 1, 2)
	w.saidIs("the quorum's", w.hears(s, 0, w.prepare(0, 10, b)), []api.Rec{holds(h)}, w.commit(0, 10, b))
	w.saidIs("another vote", w.hears(s, 3, w.prepare(1, 10, b)), nil)
	w.saidIs("one Commit", w.hears(s, 3, w.commit(0, 10, b)), nil)
	if _, there := s.Entry(10); there || s.Open() != 2 {
		t.Error("it is decided too early")
	}
	c := w.cert(api.Commit, 0, 10, b, 0, 2, 3)
	w.saidIs("the quorum's Commits", w.hears(s, 0, w.commit(0, 10, b)), []api.Rec{decided(b, c)})
	w.entryIs("decided", s, 10, b, c)
	if s.Open() != 1 || !slices.EqualFunc(s.Batches(), []api.Batch{b, b}, batch.Same) {
		t.Errorf("%+v", look(s))
	}
	w.saidIs("one more Commit", w.hears(s, 1, w.commit(0, 10, b)), nil)
	w.entryIs("with the first cert", s, 10, b, c)
}

func TestVotesAheadOfTheProposal(t *testing.T) {
	w := four(t)
	b := w.asks(0)
	// Prepare votes wait for the batch; then all is said at once, in its order.
	s := w.node(2)
	for _, n := range []int{3, 0, 1} {
		w.saidIs("no batch", w.hears(s, n, w.prepare(0, 10, b)), nil)
	}
	h := w.held(0, 10, b, 0, 1, 2)
	w.saidIs("prepared", w.hears(s, 1, w.propose(10, b)), []api.Rec{accepted(10, 0, b), holds(h)}, w.prepare(0, 10, b), w.commit(0, 10, b))
	// So do Commit votes.
	s = w.node(2)
	for _, n := range []int{3, 0, 1} {
		w.hears(s, n, w.prepare(0, 10, b))
		w.saidIs("no batch", w.hears(s, n, w.commit(0, 10, b)), nil)
	}
	c := w.cert(api.Commit, 0, 10, b, 0, 1, 2)
	w.saidIs("decided", w.hears(s, 1, w.propose(10, b)), []api.Rec{accepted(10, 0, b), holds(h), decided(b, c)}, w.prepare(0, 10, b), w.commit(0, 10, b))
	// What was committed in whatever view is decided, prepared here or not.
	s = w.node(2)
	for _, n := range []int{3, 0, 1} {
		w.hears(s, n, w.commit(5, 10, b))
	}
	c = w.cert(api.Commit, 5, 10, b, 0, 1, 3)
	w.saidIs("decided of view 5", w.hears(s, 1, w.propose(10, b)), []api.Rec{accepted(10, 0, b), decided(b, c)}, w.prepare(0, 10, b))
	w.entryIs("decided of view 5", s, 10, b, c)
}

func TestCommitsForAnUnknownBatch(t *testing.T) {
	w := four(t)
	s := w.node(2)
	b, other := w.asks(0), w.asks(2)
	w.hears(s, 1, w.propose(10, b))
	for _, n := range []int{0, 1, 3} {
		w.saidIs("an unknown one", w.hears(s, n, w.commit(0, 10, other)), nil)
	}
	if _, there := s.Entry(10); there {
		t.Error("it is decided")
	}
	// The last view's cert alone is looked at.
	for _, n := range []int{0, 1, 3} {
		w.hears(s, n, w.commit(1, 10, b))
	}
	w.entryIs("a later view's", s, 10, b, w.cert(api.Commit, 1, 10, b, 0, 1, 3))
}

func TestPrepareOfAnotherViewIsNotHeld(t *testing.T) {
	w := four(t)
	s := w.node(2)
	b := w.asks(0)
	w.hears(s, 1, w.propose(10, b))
	for _, n := range []int{0, 1, 3} {
		w.saidIs("of view 1", w.hears(s, n, w.prepare(1, 10, b)), nil)
	}
	// What was accepted in a view that is over is not prepared any more.
	s = w.node(3)
	w.hears(s, 1, w.propose(10, b))
	w.hears(s, 0, w.prepare(0, 10, b))
	w.hears(s, 0, w.change(1))
	w.hears(s, 2, w.change(1))
	w.viewIs("two changes", s, 1, false)
	w.saidIs("of view 0, in view 1", w.hears(s, 1, w.prepare(0, 10, b)), nil)
	w.saidIs("of view 0, in view 1", w.hears(s, 2, w.prepare(0, 10, b)), nil)
	// But what is committed is decided, whatever the view is.
	for _, n := range []int{0, 1} {
		w.hears(s, n, w.commit(0, 10, b))
	}
	c := w.cert(api.Commit, 0, 10, b, 0, 1, 2)
	w.saidIs("decided of view 0, in view 1", w.hears(s, 2, w.commit(0, 10, b)), []api.Rec{decided(b, c)})
}

// P20.7

func TestNext(t *testing.T) {
	w := four(t)
	s := w.node(1)
	if s.Next() != 10 {
		t.Errorf("at first: %d", s.Next())
	}
	// A slot that is decided, and has accepted none, is still to be proposed.
	w.hears(s, 0, w.entry(0, 10, w.asks(0), 0, 1, 2))
	if s.Next() != 10 || s.Open() != 1 {
		t.Errorf("decided: %d", s.Next())
	}
	w.hears(s, 0, w.change(1))
	w.hears(s, 3, w.change(1))
	if s.Next() != 0 {
		t.Errorf("in view 1: %d", s.Next())
	}
	if n := w.node(0).Next(); n != 0 {
		t.Errorf("another node: %d", n)
	}
}

func TestEntryAndBatches(t *testing.T) {
	w := four(t)
	s := w.node(0)
	a, b := w.asks(0), w.asks(2)
	w.hears(s, 1, w.propose(14, a))
	w.hears(s, 3, w.entry(4, 14, b, 0, 1, 2, 3))
	w.hears(s, 3, w.entry(0, 10, batch.None(), 1, 2, 3))
	w.entryIs("slot 10", s, 10, batch.None(), w.cert(api.Commit, 0, 10, batch.None(), 1, 2, 3))
	w.entryIs("slot 14", s, 14, b, w.cert(api.Commit, 4, 14, b, 0, 1, 2, 3))
	if !slices.EqualFunc(s.Batches(), []api.Batch{batch.None(), a, b}, batch.Same) {
		t.Errorf("%v", s.Batches())
	}
	for _, slot := range []int{math.MinInt, -1, 0, 9, 11, 18, math.MaxInt} {
		if x, there := s.Entry(slot); there || !sameEntry(x, api.Entry{}) {
			t.Errorf("slot %d: %v", slot, x)
		}
	}
}
