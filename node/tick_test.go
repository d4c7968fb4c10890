package node

import (
	"slices"
	"testing"

	"raddle/api"
	"raddle/change"
	"raddle/leaders"
	"raddle/message"
	"raddle/state"
)

// P25.5

// proposed are the batches that a tick proposes, each of which is said with a vote, and again.
func (w world) proposed(n *Node, slot int, b api.Batch) []string {
	number := n.State().Epoch
	return []string{w.propose(number, slot, b), message.Vote(w.vote(api.Prepare, number, 0, slot, b))}
}

func TestTickProposes(t *testing.T) {
	w := four(t)
	n, disk := w.fresh(2)
	one := w.proposed(n, 3, api.Batch{})
	two := w.proposed(n, 7, api.Batch{})
	end := w.status(1, 1)
	w.says(2, w.tick(n), slices.Concat(one, one, []string{end})...)
	if !n.journal.Sure() {
		t.Error("it proposes, and is not sure of that")
	}
	w.says(2, w.tick(n), slices.Concat(two, one, two, []string{end})...)
	ops, _ := disk.Counts()
	out := w.tick(n)
	w.says(2, out, slices.Concat(one, two, []string{end})...)
	if now, _ := disk.Counts(); now != ops || out.To != 0 || len(out.Direct) != 0 || len(out.Delivered) != 0 {
		t.Error(out)
	}
}

// What is proposed is what waits in the own buckets, in their order and its own.
func TestTickPicks(t *testing.T) {
	w := four(t)
	w.c.Window = 40
	w.c.Cap = 16
	second := w.later(state.First(w.c))
	second.Penal[0] = 3
	e := w.epoch(second)
	n, _ := w.fresh(1)
	w.hear(n, w.said(0, w.marked(second, 0, 1, 2)))
	// Node 0 sits out: node 1 has its own bucket, and node 0's behind that.
	own := leaders.Buckets(w.c, 2, e.Leaders, 1)
	if len(own) != 2 {
		t.Fatal(own)
	}
	for num := 40; num >= 1; num-- {
		if err := n.Submit(w.request(num%2, num, "data")); err != api.OK {
			t.Fatal(int(err))
		}
	}
	waits := append(n.pool.In(own[0]), n.pool.In(own[1])...)
	for i, slot := range []int{9, 12} {
		b := api.Batch{Requests: waits[2*i : 2*i+2]}
		out := w.bodies(1, w.tick(n).All)
		if !slices.Equal(out[:2], w.proposed(n, slot, b)) {
			t.Errorf("slot %d: %s, want %v", slot, words(out[:2]), b)
		}
	}
	if n.Waiting() != 40 {
		t.Error(n.Waiting())
	}
}

// What others would refuse, since the epoch began with windows that are behind, waits on.
func TestTickPicksWhatMayCome(t *testing.T) {
	w := four(t)
	w.c.Window, w.c.Buckets, w.c.Requests = 2, 1, 1
	n, _ := w.fresh(1)
	// Bucket 0 is node 1's. Number 1 is delivered in this epoch, so that 3 may wait, but not be proposed yet.
	w.hear(n, w.said(0, w.decided(1, 1, api.Batch{Requests: []api.Request{w.request(0, 1, "data")}})))
	for _, num := range []int{3, 2} {
		if err := n.Submit(w.request(0, num, "data")); err != api.OK {
			t.Fatal(int(err))
		}
	}
	out := w.bodies(1, w.tick(n).All)
	if want := w.proposed(n, 2, api.Batch{Requests: []api.Request{w.request(0, 2, "data")}}); !slices.Equal(out[:2], want) {
		t.Errorf("said %s", words(out))
	}
	if status := out[len(out)-1]; status != w.status(1, 2) {
		t.Errorf("said %s", words([]string{status}))
	}
	out = w.bodies(1, w.tick(n).All)
	if want := w.proposed(n, 6, api.Batch{}); !slices.Equal(out[:2], want) {
		t.Errorf("said %s", words(out))
	}
}

// Who sits out proposes nothing; neither does who has gone to another view of its slots.
func TestTickDoesNotPropose(t *testing.T) {
	w := four(t)
	second := w.later(state.First(w.c))
	second.Penal[3] = 3
	n, _ := w.fresh(3)
	w.hear(n, w.said(0, w.marked(second, 0, 1, 2)))
	w.says(3, w.tick(n), w.status(2, 9))

	n, _ = w.fresh(3)
	body := change.Body(api.Change{Epoch: 1, Leader: 3, View: 1})
	for i := range 2 {
		w.hear(n, w.seal(i, body))
	}
	w.says(3, w.tick(n), body, w.status(1, 1))
}

// Behind Timeout ticks the views of all that is not decided are left, in the leaders' order.
func TestTickTimesOut(t *testing.T) {
	w := four(t)
	n, _ := w.fresh(0)
	for _, slot := range []int{2, 6} {
		w.hear(n, w.said(1, w.decided(1, slot, api.Batch{})))
	}
	for range w.c.Timeout - 1 {
		w.tick(n)
	}
	if !slices.Equal(n.Views(), []int{0, 0, 0, 0}) {
		t.Error(n.Views())
	}
	var moves []string
	for _, leader := range []int{0, 2, 3} {
		moves = append(moves, change.Body(api.Change{Epoch: 1, Leader: leader, View: 1}))
	}
	w.says(0, w.tick(n), slices.Concat(moves, moves, []string{w.status(1, 1)})...)
	if !slices.Equal(n.Views(), []int{1, 0, 1, 1}) || !n.journal.Sure() {
		t.Error(n.Views())
	}
}

// A mark is said again until the epoch is left; the status tells the next slot.
func TestTickMarks(t *testing.T) {
	w := four(t)
	second := w.later(state.First(w.c))
	second.Penal[2] = 3
	n, _ := w.fresh(2)
	w.hear(n, w.said(0, w.marked(second, 0, 1, 2)))
	for slot := 9; slot < 15; slot++ {
		w.says(2, w.tick(n), w.status(2, slot))
		w.hear(n, w.said(0, w.decided(2, slot, api.Batch{})))
	}
	mark := message.Mark(2, state.Digest(w.later(second)))
	for range 2 {
		w.says(2, w.tick(n), mark, w.status(2, 15))
	}
	for i := range 2 {
		w.hear(n, w.seal(i, mark))
	}
	one := w.proposed(n, 17, api.Batch{})
	w.says(2, w.tick(n), slices.Concat(one, one, []string{w.status(3, 15)})...)
}

// A tick may decide the last slot, if others voted for what it proposes: then it goes on into the next epoch.
func TestTickEnters(t *testing.T) {
	w := four(t)
	w.c.Slots = 1
	n, _ := w.fresh(3)
	for slot := 1; slot < 4; slot++ {
		w.hear(n, w.said(0, w.decided(1, slot, api.Batch{})))
	}
	mark := message.Mark(1, state.Digest(w.later(state.First(w.c))))
	for i := range 3 {
		w.hear(n, w.seal(i, mark))
		for _, kind := range []int{api.Prepare, api.Commit} {
			w.hear(n, w.seal(i, message.Vote(w.vote(kind, 1, 0, 4, api.Batch{}))))
		}
	}
	out := w.tick(n)
	commit := message.Vote(w.vote(api.Commit, 1, 0, 4, api.Batch{}))
	w.says(3, out, w.propose(1, 4, api.Batch{}), message.Vote(w.vote(api.Prepare, 1, 0, 4, api.Batch{})), commit, mark, w.status(2, 5))
	if n.State().Epoch != 2 || len(n.Signs()) != 3 {
		t.Error(n.State(), n.Signs())
	}
}
