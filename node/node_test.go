package node

import (
	"slices"
	"testing"

	"raddle/api"
	"raddle/epoch"
	"raddle/message"
	"raddle/request"
	"raddle/seal"
	"raddle/state"
	"raddle/tape"
)

// The chapter's example.

func TestExample(t *testing.T) {
	w := four(t)
	g := w.group()
	for i, n := range g.nodes {
		out := w.tick(n)
		empty := w.propose(1, i+1, api.Batch{})
		if got := w.bodies(i, out.All); len(got) == 0 || got[0] != empty {
			t.Errorf("node %d says %s", i, words(got))
		}
		g.send(i, out)
	}
	g.rounds(8)
	for i, n := range g.nodes {
		if n.State().Epoch < 2 || n.Count() != 0 || n.State().Penal[i] != 0 {
			t.Errorf("node %d: %+v", i, n.State())
		}
	}
}

// All that is asked for is delivered, to all nodes alike, though one is away for a while.
func TestDelivers(t *testing.T) {
	w := four(t)
	w.c.Last = 1000
	g := w.group()
	for num := 1; num <= 6; num++ {
		for client := range 2 {
			for _, n := range g.nodes {
				if err := n.Submit(w.request(client, num, "data")); err != api.OK && err != api.ErrFull {
					t.Fatal(int(err))
				}
			}
		}
		g.rounds(4, 3)
	}
	g.rounds(100, 3)
	if n := g.nodes[3]; n.State().Epoch != 1 || n.Waiting() < 10 {
		t.Error(n.State().Epoch, n.Waiting())
	}
	g.rounds(30)
	if len(g.log[0]) != 12 {
		t.Fatal(g.log[0])
	}
	for i, d := range g.log[0] {
		if d.Index != i+1 || request.Good(w.k, 4, 2, d.Request) != api.OK {
			t.Error(i, d)
		}
	}
	for i, n := range g.nodes {
		if n.Count() != 12 || n.Waiting() != 0 || i < 3 && !slices.Equal(g.log[i], g.log[0]) {
			t.Errorf("node %d: %d, %d wait, %v", i, n.Count(), n.Waiting(), g.log[i])
		}
		if err := n.Submit(w.request(1, 6, "data")); err != api.ErrOld {
			t.Error(int(err))
		}
	}
}

// P25.3

func TestSubmit(t *testing.T) {
	w := four(t)
	n, disk := w.fresh(0)
	bad := w.request(0, 3, "data")
	bad.Tag[3]++
	farAndBad := w.request(0, 100, "data")
	farAndBad.Data = "other"
	for _, x := range []struct {
		r    api.Request
		want api.Errno
	}{
		{api.Request{Client: 2, Num: 1}, api.ErrRequest},
		{api.Request{Client: -1, Num: 1}, api.ErrRequest},
		{api.Request{Client: 0, Num: 0}, api.ErrRequest},
		{api.Request{Client: 0, Num: api.MaxNum + 1}, api.ErrRequest},
		{bad, api.ErrForged},
		{farAndBad, api.ErrForged},
		{w.request(0, 9, ""), api.ErrFar},
		{w.request(0, 8, ""), api.OK},
		{w.request(0, 8, ""), api.ErrThere},
		{w.request(0, 8, "another one of this pair"), api.ErrThere},
	} {
		was, many := seen(n, disk), n.Rejects()
		if err := n.Submit(x.r); err != x.want {
			t.Errorf("%+v: %d, want %d", x.r, int(err), int(x.want))
		}
		refused := x.want != api.OK
		if refused && (seen(n, disk) != was || n.Rejects() != many+1) || !refused && n.Rejects() != many {
			t.Errorf("%+v: %d rejects behind %d", x.r, n.Rejects(), many)
		}
	}
	if n.Waiting() != 1 {
		t.Error(n.Waiting())
	}
}

// The windows are those of the ledger, which goes on within the epoch.
func TestSubmitAsksTheLedger(t *testing.T) {
	w := four(t)
	n, _ := w.fresh(0)
	r := w.request(1, 1, "data")
	if err := n.Submit(r); err != api.OK {
		t.Fatal(int(err))
	}
	owner := epoch.Bucket(w.first(), 1, 1)
	b := api.Batch{Requests: []api.Request{r}}
	for slot := 1; n.Count() == 0; slot++ {
		x := api.Batch{}
		if epoch.Owner(w.first(), slot) == owner {
			x = b
		}
		w.hear(n, w.said(2, w.decided(1, slot, x)))
	}
	if n.Waiting() != 0 {
		t.Error("it waits on")
	}
	for num, want := range map[int]api.Errno{1: api.ErrOld, 2: api.OK, 9: api.OK, 10: api.ErrFar} {
		if err := n.Submit(w.request(1, num, "data")); err != want {
			t.Errorf("number %d: %d, want %d", num, int(err), int(want))
		}
	}
}

func TestSubmitFull(t *testing.T) {
	w := four(t)
	w.c.Buckets, w.c.Cap = 1, 3
	n, _ := w.fresh(0)
	for num := 1; num <= 3; num++ {
		if err := n.Submit(w.request(0, num, "data")); err != api.OK {
			t.Fatal(int(err))
		}
	}
	if err := n.Submit(w.request(0, 4, "data")); err != api.ErrFull || n.Waiting() != 3 {
		t.Error(int(err), n.Waiting())
	}
}

// P25.6

func TestNoNode(t *testing.T) {
	w := four(t)
	for _, n := range []*Node{nil, {}} {
		if err := n.Submit(w.request(0, 1, "")); err != api.ErrNil {
			t.Error(int(err))
		}
		if out, err := n.Hear(w.seal(1, w.status(1, 1))); err != api.ErrNil || !isNothing(out) {
			t.Error(int(err), out)
		}
		if out, err := n.Tick(); err != api.ErrNil || !isNothing(out) {
			t.Error(int(err), out)
		}
		if !state.Same(n.State(), api.State{}) || len(n.Signs()) != 0 || n.Next() != 0 || n.Count() != 0 || n.Chain() != (api.Digest{}) {
			t.Error(n.State())
		}
		if len(n.Log()) != 0 || n.Waiting() != 0 || n.Kept() != 0 || len(n.Views()) != 0 || n.Rejects() != 0 || n.Ended() || n.On() {
			t.Error(n.Log())
		}
	}
}

func TestRejectsAreBounded(t *testing.T) {
	w := four(t)
	n, _ := w.fresh(0)
	n.rejects = api.MaxRejects - 1
	for range 3 {
		n.Submit(api.Request{})
		if n.Rejects() != api.MaxRejects {
			t.Error(n.Rejects())
		}
		n.Hear(api.Envelope{})
	}
}

// What is handed out is the caller's own.
func TestCopies(t *testing.T) {
	w := four(t)
	n, disk := w.fresh(0)
	w.hear(n, w.said(1, w.marked(w.later(state.First(w.c)), 0, 1, 3)))
	e := w.epoch(n.State())
	x := api.Batch{Requests: []api.Request{w.of(e, 0, 0, 0)}}
	out := w.hear(n, w.said(1, w.decided(2, e.Start, x)))
	was := seen(n, disk)
	s := n.State()
	s.Clients[0].Base, s.Penal[0] = 77, 77
	n.Signs()[0].Node = 77
	n.Log()[0].Index = 77
	out.Delivered[0].Index = 77
	n.Views()[0] = 77
	if seen(n, disk) != was {
		t.Error("a node lends its own")
	}
}

// What a node says, or is refused, with an error of its journal or its keys: it is stuck.

// stuckWith tests that nothing goes on any more.
func stuckWith(t *testing.T, w world, n *Node, want api.Errno) {
	t.Helper()
	many := n.Rejects()
	for range 2 {
		if err := n.Submit(w.request(0, 1, "")); err != want {
			t.Errorf("Submit: %d, want %d", int(err), int(want))
		}
		if out, err := n.Hear(api.Envelope{}); err != want || !isNothing(out) {
			t.Errorf("Hear: %d, want %d", int(err), int(want))
		}
		if out, err := n.Tick(); err != want || !isNothing(out) {
			t.Errorf("Tick: %d, want %d", int(err), int(want))
		}
	}
	if n.On() || n.Rejects() != many {
		t.Error(n.On(), n.Rejects(), many)
	}
}

func TestPowerFails(t *testing.T) {
	w := four(t)
	n, disk := w.fresh(0)
	disk.Fail(0)
	stuckWith(t, w, n, api.ErrPower)
	// It is there again, but for another one that is opened.
	disk.Power()
	stuckWith(t, w, n, api.ErrPower)
	if !w.open(0, disk).On() {
		t.Error("off")
	}
}

func TestPowerFailsWithin(t *testing.T) {
	w := four(t)
	for ops := range 2 {
		n, disk := w.fresh(0)
		disk.Arm(ops, 0)
		// A proposal is appended, and synced.
		if out, err := n.Tick(); err != api.ErrPower || !isNothing(out) {
			t.Error(ops, int(err), out)
		}
		stuckWith(t, w, n, api.ErrPower)
		disk.Power()
		stuckWith(t, w, n, api.ErrPower)
		n, disk = w.fresh(0)
		disk.Arm(ops, 0)
		if out, err := n.Hear(w.seal(1, w.propose(1, 2, api.Batch{}))); err != api.ErrPower || !isNothing(out) {
			t.Error(ops, int(err), out)
		}
		stuckWith(t, w, n, api.ErrPower)
	}
	// A state is laid: cleared, appended, a turn appended, synced.
	for ops := range 4 {
		n, disk := w.fresh(0)
		disk.Arm(ops, 0)
		if out, err := n.Hear(w.said(1, w.marked(w.later(state.First(w.c)), 0, 1, 3))); err != api.ErrPower || !isNothing(out) {
			t.Error(ops, int(err), out)
		}
		stuckWith(t, w, n, api.ErrPower)
		if n.State().Epoch != 1 {
			t.Error("it is not sure of that epoch")
		}
	}
}

func TestNoRoom(t *testing.T) {
	w := four(t)
	disk := tape.New(60)
	n := w.open(0, disk)
	if out, err := n.Tick(); err != api.OK || len(out.All) == 0 {
		t.Fatal(int(err))
	}
	for range 3 {
		w.hear(n, w.seal(1, w.status(1, 1)))
	}
	out, err := n.Hear(w.said(1, w.decided(1, 2, api.Batch{})))
	if err != api.ErrRoom || !isNothing(out) || n.Rejects() != 0 {
		t.Error(int(err), out, n.Rejects())
	}
	stuckWith(t, w, n, api.ErrRoom)
}

func TestNoKeyOfItsOwn(t *testing.T) {
	w := four(t)
	n, err := Open(w.c, seal.Derive("k", 3), 3, w.disk())
	if err != api.OK {
		t.Fatal(int(err))
	}
	if out, err := n.Tick(); err != api.ErrArg || !isNothing(out) {
		t.Error(int(err), out)
	}
	stuckWith(t, w, n, api.ErrArg)
}

// P25.7, P25.8

// A vote that was said is said again, and no other one, wherever power fails.
func TestSaysTheSameAgain(t *testing.T) {
	w := four(t)
	e := w.first()
	one := api.Batch{Requests: []api.Request{w.of(e, 1, 0, 0)}}
	two := api.Batch{Requests: []api.Request{w.of(e, 1, 1, 0)}}
	for ops := range 4 {
		for _, keep := range []int{0, 20, 1000} {
			n, disk := w.fresh(2)
			disk.Arm(ops, keep)
			out, err := n.Hear(w.seal(1, w.propose(1, 2, one)))
			voted := message.Vote(w.vote(api.Prepare, 1, 0, 2, one))
			if err == api.OK {
				w.says(2, out, voted)
				disk.Fail(keep)
			}
			disk.Power()
			n = w.open(2, disk)
			if again := slices.Contains(w.bodies(2, w.tick(n).All), voted); again != (err == api.OK || keep == 1000 && ops > 0) {
				t.Errorf("%d operations, %d kept, error %d: said again: %v", ops, keep, int(err), again)
			}
			out, err2 := n.Hear(w.seal(1, w.propose(1, 2, two)))
			if err == api.OK && (err2 != api.ErrOther || !isNothing(out)) {
				t.Errorf("another one: %d", int(err2))
			}
		}
	}
}

// A leader that lost power proposes nothing else for the same slot.
func TestProposesTheSameAgain(t *testing.T) {
	w := four(t)
	e := w.first()
	n, disk := w.fresh(1)
	first := w.bodies(1, w.tick(n).All)[0]
	if first != w.propose(1, 2, api.Batch{}) {
		t.Fatal(words([]string{first}))
	}
	disk.Fail(0)
	disk.Power()
	n = w.open(1, disk)
	if err := n.Submit(w.of(e, 1, 0, 0)); err != api.OK {
		t.Fatal(int(err))
	}
	other := w.propose(1, 6, api.Batch{Requests: []api.Request{w.of(e, 1, 0, 0)}})
	for range 3 {
		for _, body := range w.bodies(1, w.tick(n).All) {
			if m, _ := message.Decode(body); m.Kind == api.MsgPropose && body != first && body != other {
				t.Error(words([]string{body}))
			}
		}
	}
}

// What is delivered is not made sure until something is said; behind a failure it is there, or not.
func TestDeliveredAndLost(t *testing.T) {
	w := four(t)
	e := w.first()
	x := api.Batch{Requests: []api.Request{w.of(e, 0, 0, 0)}}
	for _, ticks := range []bool{false, true} {
		n, disk := w.fresh(3)
		out := w.hear(n, w.said(1, w.decided(1, 1, x)))
		if len(out.All) != 0 || len(out.Delivered) != 1 || n.Count() != 1 {
			t.Fatal(out)
		}
		if ticks {
			w.tick(n)
		}
		disk.Fail(0)
		if n.Count() != 1 || n.On() {
			t.Error(n.Count())
		}
		disk.Power()
		n = w.open(3, disk)
		want := 0
		if ticks {
			want = 1
		}
		if n.Count() != want || len(n.Log()) != want || n.Next() != 1+want {
			t.Errorf("ticked: %v, count %d", ticks, n.Count())
		}
	}
}

// What is found behind a failure was delivered, though power failed while that was kept.
func TestFoundWasDelivered(t *testing.T) {
	w := four(t)
	x := api.Batch{Requests: []api.Request{w.of(w.first(), 0, 0, 0)}}
	found := 0
	for ops := range 8 {
		n, disk := w.fresh(3)
		// The journal is long, and is laid anew: with what is heard, at once.
		for n.journal.Bytes() <= Bound(w.c)/4 {
			n.journal.Append(w.rec(api.Rec{Kind: api.RecView, Leader: 2}))
		}
		disk.Arm(ops, 1000)
		out, err := n.Hear(w.said(1, w.decided(1, 1, x)))
		if err != api.OK && !isNothing(out) {
			t.Error(out)
		}
		disk.Fail(1000)
		disk.Power()
		again := w.open(3, disk)
		if again.Count() > n.Count() || len(again.Log()) > len(n.Log()) {
			t.Errorf("%d operations: %d delivered, %d found", ops, n.Count(), again.Count())
		}
		if err != api.OK {
			found += again.Count()
		}
	}
	if found == 0 {
		t.Error("nothing of what failed was found again")
	}
}
