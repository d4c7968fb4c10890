package cluster

import (
	"slices"
	"testing"

	"raddle/api"
	"raddle/envelope"
	"raddle/leaders"
	"raddle/net"
	"raddle/request"
)

// P27.2

func TestNoSuchKind(t *testing.T) {
	w := begun(t, conf())
	w.tickAll()
	for _, kind := range append(wrong(), 11, 12, 256) {
		w.refuses(Act{Kind: kind}, api.ErrStep)
	}
	if w.acts.Load() == 0 {
		t.Error("acts are not counted")
	}
}

// What is told to all goes to each other node, envelope by envelope, the nodes rising.
func TestGoesOut(t *testing.T) {
	w := begun(t, conf())
	w.do(Act{Kind: Tick, Node: 1}, api.OK)
	want := []string{
		w.propose(1, 2),
		w.bytes(api.Msg{Kind: api.MsgVote, Vote: w.vote(api.Prepare, 1, 0, 2, api.Batch{})}),
		w.status(1, 1),
	}
	var packets []net.Packet
	for _, body := range want {
		for _, to := range []int{0, 2, 3} {
			packets = append(packets, net.Packet{To: to, X: w.seal(1, body)})
		}
	}
	if got := w.way(); !slices.Equal(got, packets) {
		t.Errorf("%+v, want %+v", got, packets)
	}
	if w.Sent() != 3 {
		t.Error(w.Sent())
	}
}

// What is told to one goes to that one.
func TestGoesOutToOne(t *testing.T) {
	w := begun(t, conf())
	for range 4 {
		w.tickAll()
	}
	w.dropAll()
	w.do(Act{Kind: Inject, Node: 2, N: 3, Data: w.status(0, 0)}, api.OK)
	w.do(Act{Kind: Deliver}, api.OK)
	if l := w.way(); len(l) != 1 || l[0].To != 2 || l[0].X.From != 3 {
		t.Errorf("%+v", l)
	}
}

func TestDeliver(t *testing.T) {
	w := begun(t, conf())
	for _, kind := range []int{Deliver, Drop, Copy} {
		w.refuses(Act{Kind: kind}, api.ErrPacket)
	}
	w.do(Act{Kind: Tick, Node: 1}, api.OK)
	for _, kind := range []int{Deliver, Drop, Copy} {
		for _, n := range append(wrong(), w.Len()) {
			w.refuses(Act{Kind: kind, N: n}, api.ErrPacket)
		}
	}
	// The proposal to node 2, the second packet: what it says goes out behind all others.
	was := w.way()
	w.do(Act{Kind: Deliver, N: 1}, api.OK)
	vote := w.seal(2, w.bytes(api.Msg{Kind: api.MsgVote, Vote: w.vote(api.Prepare, 1, 0, 2, api.Batch{})}))
	want := slices.Delete(slices.Clone(was), 1, 2)
	for _, to := range []int{0, 1, 3} {
		want = append(want, net.Packet{To: to, X: vote})
	}
	if got := w.way(); !slices.Equal(got, want) {
		t.Errorf("%+v, want %+v", got, want)
	}
}

// A copy is on its way on; what is said again is on its way already.
func TestCopy(t *testing.T) {
	w := begun(t, conf())
	w.do(Act{Kind: Tick, Node: 1}, api.OK)
	was := w.way()
	w.do(Act{Kind: Copy, N: 1}, api.OK)
	got := w.way()
	if !slices.Equal(got[:len(was)], was) || len(got) != len(was)+3 {
		t.Errorf("%+v", got)
	}
	w.refuses(Act{Kind: Copy, N: 1}, api.OK)
	w.do(Act{Kind: Deliver, N: 1}, api.OK)
	if w.Len() != len(was)-1+3 {
		t.Error(w.Len())
	}
}

func TestDrop(t *testing.T) {
	w := begun(t, conf())
	w.do(Act{Kind: Tick, Node: 1}, api.OK)
	was := w.way()
	var nodes []string
	for i := range 4 {
		nodes = append(nodes, w.toldOf(i))
	}
	w.do(Act{Kind: Drop, N: 4}, api.OK)
	if got := w.way(); !slices.Equal(got, slices.Delete(slices.Clone(was), 4, 5)) {
		t.Errorf("%+v", got)
	}
	for i := range 4 {
		if w.toldOf(i) != nodes[i] {
			t.Errorf("node %d changes", i)
		}
	}
	// To a node that is down it goes as well.
	w.do(Act{Kind: Crash, Node: 0}, api.OK)
	w.do(Act{Kind: Drop, N: 0}, api.OK)
	if w.Len() != len(was)-2 {
		t.Error(w.Len())
	}
}

// What a node refuses is its error; the packet is gone, and the refusal counted.
func TestDeliverRefused(t *testing.T) {
	w := begun(t, conf())
	w.do(Act{Kind: Inject, Node: 2, N: 1, Data: "no message"}, api.OK)
	w.do(Act{Kind: Inject, Node: 2, N: 1, Data: w.propose(2, 3)}, api.OK)
	w.do(Act{Kind: Copy, N: 1}, api.ErrEpoch)
	w.do(Act{Kind: Deliver, N: 1}, api.ErrEpoch)
	w.do(Act{Kind: Deliver}, api.ErrForm)
	if _, _, _, rejects := w.Sizes(1); rejects != 3 || w.Len() != 0 {
		t.Error(rejects, w.Len())
	}
}

// What comes to a node that is down is lost.
func TestDeliverDown(t *testing.T) {
	w := begun(t, conf())
	w.do(Act{Kind: Tick, Node: 1}, api.OK)
	w.do(Act{Kind: Crash, Node: 0}, api.OK)
	many, node := w.Len(), w.toldOf(0)
	w.refuses(Act{Kind: Copy}, api.ErrDown)
	w.do(Act{Kind: Deliver, N: many}, api.ErrPacket)
	w.do(Act{Kind: Deliver}, api.ErrDown)
	if w.Len() != many-1 || w.toldOf(0) != node {
		t.Error(w.Len(), w.toldOf(0))
	}
}

func TestTick(t *testing.T) {
	w := begun(t, conf())
	for _, i := range append(wrong(), 4) {
		w.refuses(Act{Kind: Tick, Node: i}, api.ErrArg)
	}
	w.do(Act{Kind: Crash, Node: 1}, api.OK)
	w.refuses(Act{Kind: Tick, Node: 1}, api.ErrDown)
	// A faulty node runs as the others do.
	w.do(Act{Kind: Tick, Node: 2}, api.OK)
	if w.Len() != 9 {
		t.Error(w.Len())
	}
	// Power that goes within the call is its error, and nothing goes out.
	w.dropAll()
	w.do(Act{Kind: Arm, Node: 3}, api.OK)
	w.do(Act{Kind: Tick, Node: 3}, api.ErrPower)
	w.do(Act{Kind: Tick, Node: 3}, api.ErrDown)
	if w.Len() != 0 || w.On(3) {
		t.Error(w.Len(), w.On(3))
	}
}

func TestSubmit(t *testing.T) {
	w := begun(t, conf())
	long := string(make([]byte, api.MaxData+1))
	for _, i := range append(wrong(), 4) {
		w.refuses(Act{Kind: Submit, Node: i, N: 0, M: 1}, api.ErrArg)
		w.refuses(Act{Kind: Submit, Node: i, N: 9, M: 0}, api.ErrArg)
	}
	for _, client := range append(wrong(), 3, 7, 8) {
		w.refuses(Act{Kind: Submit, N: client, M: 1}, api.ErrRequest)
	}
	for _, num := range append(wrong(), 0, api.MaxNum+1) {
		w.refuses(Act{Kind: Submit, M: num}, api.ErrRequest)
	}
	w.refuses(Act{Kind: Submit, M: 1, Data: long}, api.ErrRequest)
	w.do(Act{Kind: Submit, M: 1, Data: long[1:]}, api.OK)
	w.do(Act{Kind: Submit, M: 8, Data: "x"}, api.OK)
	w.do(Act{Kind: Submit, M: 9, Data: "x"}, api.ErrFar)
	w.do(Act{Kind: Submit, M: api.MaxNum, Data: "x"}, api.ErrFar)
	w.do(Act{Kind: Submit, M: 8, Data: "x"}, api.ErrThere)
	w.do(Act{Kind: Submit, Node: 1, M: 8, Data: "x"}, api.OK)
	if waiting, _, _, rejects := w.Sizes(0); waiting != 2 || rejects != 3 {
		t.Error(waiting, rejects)
	}
	// What an honest client asked for stays what it is, at all nodes.
	w.refuses(Act{Kind: Submit, Node: 1, M: 8, Data: "y"}, api.ErrOther)
	w.refuses(Act{Kind: Submit, Node: 3, M: api.MaxNum, Data: "y"}, api.ErrOther)
}

// A request is known, and asked for, though its node is down.
func TestSubmitDown(t *testing.T) {
	w := begun(t, conf())
	w.do(Act{Kind: Crash, Node: 1}, api.OK)
	w.refuses(Act{Kind: Submit, Node: 1, N: 5, M: 1, Data: "a"}, api.ErrRequest)
	r := w.request(0, 1, "a")
	own := envelope.Claim{ID: 4, Body: request.Body(r), Tag: r.Tag}
	if w.net.Knows(own) {
		t.Error("known")
	}
	w.do(Act{Kind: Submit, Node: 1, N: 0, M: 1, Data: "a"}, api.ErrDown)
	if s, ok := w.Submitted(0, 1); s != "a" || !ok || !w.net.Knows(own) {
		t.Error(s, ok)
	}
	w.refuses(Act{Kind: Submit, Node: 1, N: 0, M: 1, Data: "b"}, api.ErrOther)
	w.refuses(Act{Kind: Submit, Node: 0, N: 0, M: 1, Data: "b"}, api.ErrOther)
	w.do(Act{Kind: Submit, Node: 0, N: 0, M: 1, Data: "a"}, api.OK)
}

// All that a liar asks for is known, whatever was first.
func TestSubmitLies(t *testing.T) {
	w := begun(t, conf())
	for i, data := range []string{"a", "b", "c"} {
		w.do(Act{Kind: Submit, Node: i, N: 2, M: 1, Data: data}, api.OK)
		r := w.request(2, 1, data)
		if !w.net.Knows(envelope.Claim{ID: 6, Body: request.Body(r), Tag: r.Tag}) {
			t.Errorf("%s is not known", data)
		}
	}
	if s, _ := w.Submitted(2, 1); s != "a" {
		t.Error(s)
	}
}

func TestCrashArmStart(t *testing.T) {
	w := begun(t, conf())
	for _, kind := range []int{Crash, Arm, Start} {
		for _, i := range append(wrong(), 4) {
			w.refuses(Act{Kind: kind, Node: i}, api.ErrArg)
		}
	}
	for i := range 4 {
		w.refuses(Act{Kind: Start, Node: i}, api.ErrThere)
	}
	w.refuses(Act{Kind: Arm, Node: 0, N: -1}, api.ErrArg)
	w.do(Act{Kind: Crash, Node: 1}, api.OK)
	if w.On(1) || !w.On(0) || !w.On(2) || !w.On(3) {
		t.Error("on")
	}
	w.refuses(Act{Kind: Crash, Node: 1}, api.ErrDown)
	w.refuses(Act{Kind: Arm, Node: 1}, api.ErrDown)
	w.refuses(Act{Kind: Arm, Node: 1, N: -1}, api.ErrDown)
	w.do(Act{Kind: Start, Node: 1}, api.OK)
	w.refuses(Act{Kind: Start, Node: 1}, api.ErrThere)
	if !w.On(1) {
		t.Error("down")
	}
}

// Of what is not sure a crash keeps M bytes.
func TestCrashKeeps(t *testing.T) {
	for keep, want := range map[int]int{-1: 0, 0: 0, 3: 3, 5: 5, 6: 5, 1 << 40: 5} {
		w := begun(t, conf())
		disk := w.machines[1].tape
		was := disk.Used()
		disk.Append(0, []byte("bytes"))
		w.do(Act{Kind: Crash, Node: 1, M: keep}, api.OK)
		if got := disk.Used() - was; got != want {
			t.Errorf("keep %d: %d, want %d", keep, got, want)
		}
	}
}

// An armed tape fails behind N operations, and keeps M bytes.
func TestArm(t *testing.T) {
	for n := range 3 {
		w := begun(t, conf())
		disk := w.machines[1].tape
		was := disk.Used()
		w.do(Act{Kind: Arm, Node: 1, N: 9, M: 9}, api.OK)
		w.do(Act{Kind: Arm, Node: 1, N: n, M: 4}, api.OK) // in the place of the other plan
		// A proposal: its record is appended, and then made sure.
		want, left := api.ErrPower, was
		switch n {
		case 1:
			left += 4
		case 2:
			want = api.OK
		}
		w.do(Act{Kind: Tick, Node: 1}, want)
		if n < 2 && disk.Used() != left {
			t.Errorf("%d: %d bytes behind %d", n, disk.Used(), was)
		}
		if w.On(1) != (n == 2) || (w.Len() > 0) != (n == 2) {
			t.Errorf("%d: %v, %d packets", n, w.On(1), w.Len())
		}
	}
}

// A node's log behind a start: what is above its count goes, what it found is there.
func TestLogBehindStart(t *testing.T) {
	w := begun(t, conf())
	w.ask(0, 1, "a")
	for range 5 {
		w.tickAll()
	}
	w.ask(0, 2, "b")
	w.ask(0, 3, "c")
	full := func() bool { return len(w.Log(3)) == 3 }
	for !full() {
		w.do(Act{Kind: Tick, Node: 0}, api.OK)
		for i := 1; i < 4; i++ {
			w.do(Act{Kind: Tick, Node: i}, api.OK)
		}
		for w.Len() > 0 && !full() {
			w.Do(Act{Kind: Deliver})
		}
	}
	was := w.Log(3)
	begin := w.State(3).Count
	// What it said is sure, and what it delivered just now is not, if it had nothing to say behind it.
	w.do(Act{Kind: Crash, Node: 3}, api.OK)
	if got := w.Log(3); !slices.Equal(got, was) {
		t.Error("a crash alone changes the log")
	}
	w.do(Act{Kind: Start, Node: 3}, api.OK)
	got := w.Log(3)
	if len(got) != w.Count(3) || len(got) < begin || !slices.Equal(got, was[:len(got)]) {
		t.Errorf("%v behind %v, count %d", got, was, w.Count(3))
	}
	if len(got) == len(was) {
		t.Error("nothing was lost: the test does not ask what it should")
	}
	for range 5 {
		w.tickAll()
	}
	if got := w.Log(3); !slices.Equal(got, was) {
		t.Errorf("%v, want %v", got, was)
	}
}

// What was delivered in the call within which power failed, and is found again, is in the log behind the start.
func TestLogFindsMore(t *testing.T) {
	found := false
	below := random(3)
	// Of the last slot's leader, so that what delivers it ends the epoch, and there is a mark to say, for which the journal must be sure.
	num := 1
	for leaders.Owner(config(), 1, []int{0, 1, 2, 3}, request.Bucket(0, num, 4)) != 3 {
		num++
	}
	for try := range 120 {
		ops := try % 40
		w := begun(t, conf())
		w.ask(0, num, "a")
		w.do(Act{Kind: Arm, Node: 3, N: ops, M: 1 << 20}, api.OK)
		for w.On(3) {
			for i := range 4 {
				w.Do(Act{Kind: Tick, Node: i})
			}
			for w.Len() > 0 && w.On(3) {
				w.Do(Act{Kind: Deliver, N: below(w.Len())})
			}
		}
		was := w.Log(3)
		w.do(Act{Kind: Start, Node: 3}, api.OK)
		got := w.Log(3)
		if len(got) != w.Count(3) && w.State(3).Epoch == 1 {
			t.Errorf("%d: count %d, log %v", ops, w.Count(3), got)
		}
		found = found || len(got) > len(was)
	}
	if !found {
		t.Error("never met")
	}
}

// A node that took a state over has not delivered what is in it: its log goes on behind.
func TestLogBehindState(t *testing.T) {
	w := begun(t, conf())
	w.do(Act{Kind: Crash, Node: 3}, api.OK)
	for i := range 3 {
		w.do(Act{Kind: Submit, Node: i, N: 0, M: 1, Data: "a"}, api.OK)
	}
	for range 30 {
		w.tickAll()
	}
	if w.Count(0) != 1 || w.State(0).Epoch < 2 {
		t.Fatal(w.Count(0), w.State(0).Epoch)
	}
	w.do(Act{Kind: Start, Node: 3}, api.OK)
	for range 3 {
		w.tickAll()
	}
	w.ask(0, 2, "b")
	for range 30 {
		w.tickAll()
	}
	if l := w.Log(3); len(l) != 1 || l[0] != w.Log(0)[1] || l[0].Index != 2 || w.Count(3) != 2 {
		t.Error(l, w.Count(3))
	}
}

func TestReplay(t *testing.T) {
	w := begun(t, conf())
	w.refuses(Act{Kind: Replay}, api.ErrPacket)
	w.do(Act{Kind: Tick, Node: 1}, api.OK)
	for _, n := range append(wrong(), w.Sent()) {
		w.refuses(Act{Kind: Replay, N: n}, api.ErrPacket)
		w.refuses(Act{Kind: Replay, Node: 9, N: n}, api.ErrPacket)
	}
	for _, i := range append(wrong(), 4) {
		w.refuses(Act{Kind: Replay, Node: i}, api.ErrArg)
	}
	// One that is on its way is there already; to its own sender none was sent.
	w.refuses(Act{Kind: Replay, Node: 0, N: 2}, api.OK)
	was := w.way()
	x, _ := w.Past(2)
	w.do(Act{Kind: Replay, Node: 1, N: 2}, api.OK)
	if got := w.way(); !slices.Equal(got, append(was, net.Packet{To: 1, X: x})) || w.Sent() != 3 {
		t.Errorf("%+v", got)
	}
	w.do(Act{Kind: Deliver, N: w.Len() - 1}, api.ErrSender)
	// To a node that is down it can be sent.
	w.dropAll()
	w.do(Act{Kind: Crash, Node: 3}, api.OK)
	w.do(Act{Kind: Replay, Node: 3, N: 0}, api.OK)
	if w.Len() != 1 {
		t.Error(w.Len())
	}
}

// The first Round lets all honest nodes tick, nobody else; the second one lets them hear that.
func TestRound(t *testing.T) {
	w := begun(t, conf())
	quiet := w.toldOf(2)
	w.rounds(1)
	var want []net.Packet
	for _, from := range []int{0, 1, 3} {
		bodies := []string{w.propose(1, from+1), w.bytes(api.Msg{Kind: api.MsgVote, Vote: w.vote(api.Prepare, 1, 0, from+1, api.Batch{})}), w.status(1, 1)}
		for _, body := range bodies {
			for to := range 4 {
				if to != from {
					want = append(want, net.Packet{To: to, X: w.seal(from, body)})
				}
			}
		}
	}
	if got := w.way(); !slices.Equal(got, want) {
		t.Errorf("%+v, want %+v", got, want)
	}
	w.rounds(1)
	if w.toldOf(2) != quiet {
		t.Error("a faulty node hears, or ticks")
	}
	// Of what was on its way nothing is left: votes for three slots, and what is said again.
	for _, p := range w.way() {
		if p.X.From == 2 {
			t.Errorf("%+v", p)
		}
	}
}

// In a round what faulty nodes say, and what is said to them, is lost; so is what is said to one that is down.
func TestRoundLoses(t *testing.T) {
	w := begun(t, conf())
	w.do(Act{Kind: Tick, Node: 2}, api.OK)
	w.do(Act{Kind: Inject, Node: 2, N: 0, Data: w.propose(1, 3)}, api.OK)
	w.do(Act{Kind: Crash, Node: 3}, api.OK)
	down := w.toldOf(3)
	w.rounds(1)
	for _, p := range w.way() {
		m, _ := envelope.Open(w.k, 4, p.X)
		if p.X.From == 2 || p.X.From == 3 || m.Kind == api.MsgVote && m.Vote.Slot == 3 {
			t.Errorf("%+v", p)
		}
	}
	if w.toldOf(3) != down {
		t.Error("a node that is down does something")
	}
	w.rounds(30)
	if w.toldOf(3) != down {
		t.Error("a node that is down does something")
	}
	if w.Count(0) != 0 || w.State(0).Epoch != 1 {
		t.Error("two nodes of four go on by themselves")
	}
}

// An envelope of an honest node that is told again comes in a round as any other.
func TestRoundReplayed(t *testing.T) {
	w := begun(t, conf())
	w.do(Act{Kind: Tick, Node: 1}, api.OK)
	w.dropAll()
	w.do(Act{Kind: Replay, Node: 0, N: 0}, api.OK)
	w.rounds(1)
	found := false
	for _, p := range w.way() {
		m, _ := envelope.Open(w.k, 4, p.X)
		found = found || p.X.From == 0 && m.Kind == api.MsgVote && m.Vote.Slot == 2
	}
	if !found {
		t.Error("node 0 has not heard it")
	}
}

// Power may go in the midst of a round: the node hears no more of it, and does not tick.
func TestRoundFails(t *testing.T) {
	w := begun(t, conf())
	w.rounds(1)
	w.do(Act{Kind: Arm, Node: 3, N: 1}, api.OK)
	w.rounds(1)
	if w.On(3) {
		t.Fatal("on")
	}
	for _, p := range w.way() {
		if p.X.From == 3 {
			t.Errorf("%+v", p)
		}
	}
	w.do(Act{Kind: Start, Node: 3}, api.OK)
	w.rounds(40)
	if w.State(3).Epoch < 2 {
		t.Error(w.State(3))
	}
}

// What has no room on the net is lost, and no error of the node's. An act of which nothing comes has an error.
func TestNetIsFull(t *testing.T) {
	w := begun(t, conf())
	for i := range api.MaxPackets - 1 {
		w.do(Act{Kind: Inject, Node: 2, N: 0, Data: w.status(1, i)}, api.OK)
	}
	was, sent := w.Len(), w.Sent()
	w.do(Act{Kind: Tick, Node: 1}, api.OK)
	if w.Len() != was+1 || w.Sent() != sent+1 || w.Len() != api.MaxPackets {
		t.Error(w.Len(), w.Sent())
	}
	w.refuses(Act{Kind: Inject, Node: 2, N: 0, Data: w.status(2, 0)}, api.ErrFull)
	w.refuses(Act{Kind: Replay, Node: 3, N: 0}, api.ErrFull)
	w.refuses(Act{Kind: Replay, Node: 0, N: 0}, api.OK) // it is on its way
	w.rounds(2)
	if w.Len() >= api.MaxPackets {
		t.Error(w.Len())
	}
}

// P27.4

// What is done at one node is seen at that one alone, and on the net.
func TestOwn(t *testing.T) {
	w := begun(t, conf())
	below := random(5)
	for step := range 4000 {
		i := below(4)
		a := []Act{{Kind: Tick, Node: i}, {Kind: Submit, Node: i, N: below(3), M: 1 + below(12), Data: "d"}, {Kind: Crash, Node: i, M: below(300)}, {Kind: Arm, Node: i, N: below(20), M: below(300)},
			{Kind: Start, Node: i}, {Kind: Deliver}, {Kind: Copy, N: below(9)}, {Kind: Replay, Node: i, N: below(50)}, {Kind: Inject, Node: 2, N: i, Data: w.status(1, below(5))}, {Kind: Drop}}[[...]int{0, 0, 1, 2, 3, 4, 4, 5, 5, 5, 5, 5, 5, 5, 6, 7, 8, 9}[below(18)]]
		at := i
		if a.Kind == Deliver || a.Kind == Copy {
			at = -1
			if p, err := w.net.Look(a.N); err == api.OK {
				at = p.To
			}
		}
		var was [4]string
		for k := range was {
			was[k] = w.toldOf(k)
		}
		w.Do(a)
		for k := range was {
			if k != at && w.toldOf(k) != was[k] {
				t.Fatalf("step %d: %+v changes node %d:\n%s%s", step, a, k, was[k], w.toldOf(k))
			}
		}
		for _, kind := range []int{Drop, Inject, Replay} {
			if a.Kind == kind && w.toldOf(i) != was[i] {
				t.Fatalf("step %d: %+v changes node %d", step, a, i)
			}
		}
	}
	if w.State(0).Epoch < 2 {
		t.Error("nothing happened")
	}
}

// random is a row of numbers that look like chance, and are the same each time.
func random(seed int) func(n int) int {
	state := uint64(seed)*2654435761 + 12345
	return func(n int) int {
		state = state*6364136223846793005 + 1442695040888963407
		return int(state>>33) % n
	}
}
