package cluster

import (
	"slices"
	"testing"

	"raddle/api"
	"raddle/batch"
	"raddle/envelope"
	"raddle/leaders"
	"raddle/message"
	"raddle/request"
)

// The document's ten examples of the whole. Four nodes, each leads one slot an epoch.

func honest() Conf {
	return Conf{Config: config(), Seed: "whole"}
}

// of is the first number of a client from one on that a node may propose in an epoch in which all lead.
func of(number, node, client, from int) int {
	for num := from; ; num++ {
		if leaders.Owner(config(), number, []int{0, 1, 2, 3}, request.Bucket(client, num, config().Buckets)) == node {
			return num
		}
	}
}

func TestWhole1Delivered(t *testing.T) {
	w := begun(t, honest())
	w.ask(0, 1, "hello")
	for range 3 {
		w.tickAll()
	}
	for i := range 4 {
		if l := w.Log(i); len(l) != 1 || l[0].Request != w.request(0, 1, "hello") {
			t.Errorf("node %d: %v", i, l)
		}
	}
	for range 3 {
		w.tickAll()
	}
	for i := range 4 {
		if w.State(i).Epoch < 2 || w.Chain(i) != w.Chain(0) && w.Next(i) == w.Next(0) {
			t.Errorf("node %d: %+v", i, w.State(i))
		}
	}
}

func TestWhole2OneNodeAlone(t *testing.T) {
	for node := range 4 {
		w := begun(t, honest())
		num := of(2, node, 0, 1) // its own in epoch 2, and not in epoch 1
		w.do(Act{Kind: Submit, Node: node, N: 0, M: num, Data: "alone"}, api.OK)
		for w.State(node).Epoch < 2 {
			w.tickAll()
		}
		if w.Count(node) != 0 {
			t.Error(w.Log(node))
		}
		for w.State(node).Epoch < 3 {
			w.tickAll()
		}
		if l := w.Log(node); len(l) != 1 || l[0].Request.Num != num {
			t.Error(l)
		}
	}
}

func TestWhole3SilentLeader(t *testing.T) {
	c := honest()
	c.Faulty = []int{2}
	w := begun(t, c)
	w.rounds(c.Config.Timeout - 1)
	if w.State(0).Epoch != 1 {
		t.Error(w.State(0).Epoch)
	}
	for range 20 {
		w.rounds(1)
	}
	for _, i := range []int{0, 1, 3} {
		s := w.State(i)
		if s.Epoch < 2 || s.Penal[2] < 3 || slices.Contains(leaders.List(c.Config, 2, s.Penal), 2) || s.Penal[0] != 0 {
			t.Errorf("node %d: %+v", i, s)
		}
	}
}

// deliverTo delivers what one node said to another one, as far as it is on its way.
func (w *world) deliverTo(from, to int) {
	for i := w.Len() - 1; i >= 0; i-- {
		if p, _ := w.net.Look(i); p.X.From == from && p.To == to {
			w.Do(Act{Kind: Deliver, N: i})
		}
	}
}

// twoFaced lets node 2 propose batches for its slot, of each of the other nodes its own.
func (w *world) twoFaced(of map[int]string) {
	w.t.Helper()
	for _, to := range []int{0, 1, 3} {
		if body, there := of[to]; there {
			w.do(Act{Kind: Inject, Node: 2, N: to, Data: body}, api.OK)
			w.do(Act{Kind: Deliver, N: w.Len() - 1}, api.OK)
		}
	}
}

func TestWhole4TwoBatches(t *testing.T) {
	c := honest()
	c.Faulty = []int{2}
	w := begun(t, c)
	one := w.propose(1, 3, w.request(0, of(1, 2, 0, 1), "a"))
	w.do(Act{Kind: Submit, Node: 3, N: 0, M: of(1, 2, 0, 1), Data: "a"}, api.OK)
	w.twoFaced(map[int]string{0: one, 1: w.propose(1, 3), 3: w.propose(1, 3)})
	for range 40 {
		w.rounds(1)
	}
	for _, i := range []int{0, 1, 3} {
		if w.State(i).Epoch < 2 || w.State(i).Penal[2] < 3 {
			t.Errorf("node %d: %+v", i, w.State(i))
		}
	}
}

func TestWhole5TakenAlong(t *testing.T) {
	c := honest()
	c.Faulty = []int{2}
	w := begun(t, c)
	num := of(1, 2, 0, 1)
	r := w.request(0, num, "a")
	w.do(Act{Kind: Submit, Node: 2, N: 0, M: num, Data: "a"}, api.OK)
	body := w.propose(1, 3, r)
	w.twoFaced(map[int]string{0: body, 1: body, 3: body})
	// Node 3 alone hears that the others, too, vote for it: it holds the batch.
	w.deliverTo(0, 3)
	w.deliverTo(1, 3)
	w.dropAll()
	held := false
	for i := range w.Sent() {
		x, _ := w.Past(i)
		m, _ := envelope.Open(w.k, 4, x)
		held = held || x.From == 3 && m.Kind == api.MsgVote && m.Vote.Kind == api.Commit && m.Vote.Slot == 3
	}
	if !held {
		t.Fatal("node 3 holds nothing")
	}
	for w.State(0).Epoch < 2 {
		w.rounds(1)
	}
	w.rounds(2)
	for _, i := range []int{0, 1, 3} {
		l := w.Log(i)
		if w.State(i).Epoch != 2 || len(l) != 1 || l[0].Request != r || l[0].Slot != 3 || w.State(i).Penal[2] != 0 {
			t.Errorf("node %d: %+v %v", i, w.State(i), l)
		}
	}
}

// votesOf are the unlike votes of a node that were sent.
func (w *world) votesOf(node int) []api.Vote {
	var out []api.Vote
	for i := range w.Sent() {
		x, _ := w.Past(i)
		if m, _ := envelope.Open(w.k, w.config.Nodes, x); x.From == node && m.Kind == api.MsgVote {
			out = append(out, m.Vote)
		}
	}
	return out
}

func TestWhole6FailureBehindAVote(t *testing.T) {
	w := begun(t, honest())
	w.do(Act{Kind: Tick, Node: 2}, api.OK)
	w.deliverTo(2, 1)
	was := w.votesOf(1)
	if len(was) != 1 {
		t.Fatal(was)
	}
	w.do(Act{Kind: Crash, Node: 1}, api.OK)
	w.do(Act{Kind: Start, Node: 1}, api.OK)
	w.dropAll()
	w.do(Act{Kind: Tick, Node: 1}, api.OK)
	found := false
	for _, p := range w.way() {
		m, _ := envelope.Open(w.k, 4, p.X)
		if m.Kind == api.MsgVote && m.Vote.Slot == 3 {
			found = true
			if m.Vote != was[0] {
				t.Error(m.Vote)
			}
		}
	}
	if !found {
		t.Error("it does not say its vote again")
	}
}

func TestWhole7ThreeEpochsAway(t *testing.T) {
	w := begun(t, honest())
	w.do(Act{Kind: Crash, Node: 3}, api.OK)
	for w.State(0).Epoch < 4 {
		w.tickAll()
	}
	w.do(Act{Kind: Start, Node: 3}, api.OK)
	if w.State(3).Epoch != 1 {
		t.Fatal(w.State(3))
	}
	w.dropAll()
	w.do(Act{Kind: Tick, Node: 3}, api.OK)
	w.deliverTo(3, 0)
	told := w.way()[w.Len()-1]
	m, _ := envelope.Open(w.k, 4, told.X)
	if told.To != 3 || m.Kind != api.MsgState || len(m.Signs) != 3 {
		t.Fatalf("%+v %+v", told, m)
	}
	w.do(Act{Kind: Deliver, N: w.Len() - 1}, api.OK)
	if w.State(3).Epoch < 4 || w.State(3).Epoch != w.State(0).Epoch {
		t.Error(w.State(3))
	}
}

func TestWhole8Rights(t *testing.T) {
	c := honest()
	c.Faulty = []int{2}
	w := begun(t, c)
	v := w.vote(api.Commit, 1, 0, 1, batch.None())
	w.refuses(Act{Kind: Inject, Node: 1, N: 0, Data: message.Vote(v)}, api.ErrRights)
	const none = "no message"
	_, want := message.Decode(none)
	for i := range 4 {
		w.do(Act{Kind: Inject, Node: 2, N: i, Data: none}, api.OK)
	}
	for i := range 4 {
		if got := w.Do(Act{Kind: Deliver}); got != want && i != 2 || got == api.OK {
			t.Errorf("node %d: %d, want %d", i, int(got), int(want))
		}
		if _, _, _, rejects := w.Sizes(i); rejects != 1 {
			t.Errorf("node %d: %d", i, rejects)
		}
	}
}

func TestWhole9Liar(t *testing.T) {
	c := honest()
	c.Liars = []int{1}
	w := begun(t, c)
	for i, data := range []string{"a", "b", "a", "b"} {
		w.do(Act{Kind: Submit, Node: i, N: 1, M: 1, Data: data}, api.OK)
	}
	for range 60 {
		w.tickAll()
	}
	for i := range 4 {
		waiting, _, _, _ := w.Sizes(i)
		if l := w.Log(i); len(l) != 1 || l[0] != w.Log(0)[0] || waiting != 0 {
			t.Errorf("node %d: %v, %d wait", i, l, waiting)
		}
	}
}

func TestWhole10Full(t *testing.T) {
	c := honest()
	c.Config.Buckets = 1
	w := begun(t, c)
	for num := 1; num <= 4; num++ {
		w.do(Act{Kind: Submit, N: 0, M: num}, api.OK)
	}
	w.do(Act{Kind: Submit, N: 0, M: 5}, api.ErrFull)
}
