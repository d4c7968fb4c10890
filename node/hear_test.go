package node

import (
	"slices"
	"testing"

	"raddle/api"
	"raddle/batch"
	"raddle/change"
	"raddle/epoch"
	"raddle/journal"
	"raddle/message"
	"raddle/record"
	"raddle/state"
)

// P25.4

func TestHearNoMessage(t *testing.T) {
	w := four(t)
	n, disk := w.fresh(0)
	forged := w.seal(1, w.status(1, 1))
	forged.Tag[15]++
	others := w.seal(1, w.status(1, 1))
	others.From = 2
	for _, x := range []struct {
		x    api.Envelope
		want api.Errno
	}{
		{api.Envelope{}, api.ErrSender},
		{forged, api.ErrSender},
		{others, api.ErrSender},
		{w.seal(4, w.status(1, 1)), api.ErrSender}, // a client
		{api.Envelope{From: -1}, api.ErrSender},
		{w.seal(1, ""), api.ErrCut},
		{w.seal(1, "\x00"), api.ErrMessage},
		{w.seal(1, "\x01\x09"), api.ErrLong},
		{w.seal(1, w.status(1, 1)+"x"), api.ErrMore},
		{w.seal(0, ""), api.ErrCut}, // it is opened ahead of who said it
		{w.seal(0, w.status(0, 1)), api.ErrSender},
		{w.said(0, w.decided(1, 1, api.Batch{})), api.ErrSender},
	} {
		w.refused(n, disk, x.x, x.want)
	}
}

// segmentMsgs are one of each kind that a segment hears, of an epoch and a slot, or the leader whose slot that is.
func (w world) segmentMsgs(number, slot, leader int) []api.Msg {
	l := []api.Msg{
		{Kind: api.MsgPropose, Epoch: number, Slot: slot},
		{Kind: api.MsgVote, Vote: w.vote(api.Prepare, number, 0, slot, api.Batch{})},
		{Kind: api.MsgChange, Change: api.Change{Epoch: number, Leader: leader, View: 1}},
		{Kind: api.MsgNew, Epoch: number, Leader: leader, View: 1},
		w.decided(number, slot, api.Batch{}),
	}
	return l
}

func TestHearOfNoSegment(t *testing.T) {
	w := four(t)
	n, disk := w.fresh(0)
	for _, number := range []int{0, 2, api.MaxEpoch} {
		// A slot of no segment is told behind that.
		for _, slot := range []int{2, 99} {
			for _, m := range w.segmentMsgs(number, slot, slot%65) {
				w.refused(n, disk, w.said(1, m), api.ErrEpoch)
			}
		}
	}
	for _, slot := range []int{0, 9, api.MaxNum} {
		for _, m := range w.segmentMsgs(1, slot, 4+slot%61) {
			w.refused(n, disk, w.said(1, m), api.ErrSlot)
		}
	}
	// In an epoch that node 2 sits out it is no leader, and the slots are the others'.
	second := w.later(state.First(w.c))
	second.Penal[2] = 3
	w.hear(n, w.said(1, w.marked(second, 1, 2, 3)))
	w.refused(n, disk, w.said(1, w.segmentMsgs(2, 9, 2)[2]), api.ErrSlot)
	w.refused(n, disk, w.said(1, w.segmentMsgs(2, 15, 2)[0]), api.ErrSlot)
	w.refused(n, disk, w.said(1, w.segmentMsgs(1, 9, 2)[0]), api.ErrEpoch)
	w.hear(n, w.said(3, w.segmentMsgs(2, 14, 3)[0]))
}

// A segment's errors are handed on.
func TestHearRefusedBySegment(t *testing.T) {
	w := four(t)
	n, disk := w.fresh(0)
	w.refused(n, disk, w.seal(2, w.propose(1, 2, api.Batch{})), api.ErrOwner)
	w.refused(n, disk, w.seal(1, w.propose(1, 2, batch.None())), api.ErrBatch)
	w.refused(n, disk, w.seal(1, w.propose(1, 2, api.Batch{Requests: []api.Request{w.of(w.first(), 2, 0, 0)}})), api.ErrBucket)
	w.hear(n, w.seal(1, w.propose(1, 2, api.Batch{})))
	w.refused(n, disk, w.seal(1, w.propose(1, 2, api.Batch{Requests: []api.Request{w.of(w.first(), 1, 0, 0)}})), api.ErrOther)
	w.hear(n, w.seal(1, message.Vote(w.vote(api.Prepare, 1, 1, 2, api.Batch{}))))
	w.refused(n, disk, w.seal(1, message.Vote(w.vote(api.Prepare, 1, 0, 2, api.Batch{}))), api.ErrOld)
	w.refused(n, disk, w.seal(1, message.Vote(w.vote(api.Prepare, 1, 1, 2, batch.None()))), api.ErrOther)
	w.refused(n, disk, w.said(1, api.Msg{Kind: api.MsgChange, Change: api.Change{Epoch: 1, Leader: 1}}), api.ErrChange)
	w.refused(n, disk, w.said(1, api.Msg{Kind: api.MsgNew, Epoch: 1, Leader: 1, View: 1}), api.ErrOwner)
	w.refused(n, disk, w.said(2, api.Msg{Kind: api.MsgNew, Epoch: 1, Leader: 1, View: 1}), api.ErrChange)
	few := w.decided(1, 2, api.Batch{})
	few.Cert.Signs = few.Cert.Signs[:2]
	w.refused(n, disk, w.said(1, few), api.ErrSigns)
}

// A slot is agreed on, and delivered, by what others say.
func TestHearUpToAnEntry(t *testing.T) {
	w := four(t)
	n, disk := w.fresh(3)
	r := w.of(w.first(), 0, 1, 0)
	x := api.Batch{Requests: []api.Request{r}}
	if err := n.Submit(r); err != api.OK {
		t.Fatal(int(err))
	}
	prepare, commit := message.Vote(w.vote(api.Prepare, 1, 0, 1, x)), message.Vote(w.vote(api.Commit, 1, 0, 1, x))
	w.says(3, w.hear(n, w.seal(0, w.propose(1, 1, x))), prepare)
	if !n.journal.Sure() {
		t.Error("it votes, and is not sure of that")
	}
	w.says(3, w.hear(n, w.seal(0, prepare)))
	w.says(3, w.hear(n, w.seal(1, prepare)), commit)
	if !n.journal.Sure() || n.Waiting() != 1 {
		t.Error("it votes, and is not sure of that")
	}
	w.hear(n, w.seal(1, commit))
	out := w.hear(n, w.seal(2, commit))
	want := []api.Delivered{{Index: 1, Slot: 1, Request: r}}
	if len(out.All) != 0 || !slices.Equal(out.Delivered, want) || !slices.Equal(n.Log(), want) {
		t.Error(out, n.Log())
	}
	if n.Count() != 1 || n.Next() != 2 || n.Kept() != 1 || n.Waiting() != 0 || n.Chain() == (api.Digest{}) {
		t.Error(n.Count(), n.Next(), n.Kept(), n.Waiting())
	}
	// Nothing was said, so that nothing had to be sure.
	if n.journal.Sure() {
		t.Error("synced without need")
	}
	ops, _ := disk.Counts()
	w.hear(n, w.seal(2, commit))
	if now, _ := disk.Counts(); now != ops {
		t.Error("nothing was done, and kept")
	}
	w.hear(n, w.seal(2, w.status(1, 1)))
	if !n.journal.Sure() {
		t.Error("it tells an entry, and is not sure of that")
	}
}

// Entries that come out of order are delivered in order.
func TestHearEntries(t *testing.T) {
	w := four(t)
	e := w.first()
	n, _ := w.fresh(3)
	x, y := w.of(e, 0, 0, 0), w.of(e, 1, 1, 0)
	for _, r := range []api.Request{x, y} {
		if err := n.Submit(r); err != api.OK {
			t.Fatal(int(err))
		}
	}
	out := w.hear(n, w.said(1, w.decided(1, 2, api.Batch{Requests: []api.Request{y}})))
	if !isNothing(out) || n.Kept() != 1 || n.Next() != 1 || n.Waiting() != 2 {
		t.Error(out, n.Kept())
	}
	out = w.hear(n, w.said(1, w.decided(1, 1, api.Batch{Requests: []api.Request{x}})))
	want := []api.Delivered{{Index: 1, Slot: 1, Request: x}, {Index: 2, Slot: 2, Request: y}}
	if !slices.Equal(out.Delivered, want) || n.Next() != 3 || n.Waiting() != 0 {
		t.Error(out.Delivered, n.Next(), n.Waiting())
	}
	if out = w.hear(n, w.said(2, w.decided(1, 1, api.Batch{Requests: []api.Request{x}}))); !isNothing(out) {
		t.Error(out)
	}
}

func TestHearMarks(t *testing.T) {
	w := four(t)
	n, disk := w.fresh(1)
	d := api.Digest{1}
	w.refused(n, disk, w.seal(2, message.Mark(0, d)), api.ErrArg)
	w.says(1, w.hear(n, w.seal(2, message.Mark(3, d))))
	w.says(1, w.hear(n, w.seal(2, message.Mark(3, d))))
	w.refused(n, disk, w.seal(2, message.Mark(3, api.Digest{2})), api.ErrOther)
	w.refused(n, disk, w.seal(2, message.Mark(2, d)), api.ErrOld)
}

// The last entry lets a node mark the epoch's end; marks of a quorum, its own among them, let it go on.
func TestEntersWithMarks(t *testing.T) {
	w := four(t)
	w.c.Last = 2
	after := w.later(state.First(w.c))
	mark, other := message.Mark(1, state.Digest(after)), message.Mark(1, api.Digest{1})
	for _, early := range []bool{false, true} {
		n, _ := w.fresh(1)
		if err := n.Submit(w.request(0, 1, "data")); err != api.OK {
			t.Fatal(int(err))
		}
		w.hear(n, w.seal(0, other))
		if early {
			w.hear(n, w.seal(3, mark))
			w.hear(n, w.seal(2, mark))
		}
		said := w.bodies(1, w.finish(n))
		if !slices.Equal(said, []string{mark}) {
			t.Errorf("said %s", words(said))
		}
		if !early {
			w.hear(n, w.seal(3, mark))
			if n.State().Epoch != 1 || n.Kept() != 8 {
				t.Fatal(n.State())
			}
			if out := w.hear(n, w.seal(2, mark)); !isNothing(out) {
				t.Error(out)
			}
		}
		if !state.Same(n.State(), after) || !slices.Equal(n.Signs(), w.signs(mark, 1, 2, 3)) {
			t.Error(n.State(), n.Signs())
		}
		if n.Next() != 9 || n.Kept() != 0 || len(n.Log()) != 0 || !slices.Equal(n.Views(), []int{0, 0, 0, 0}) || n.Waiting() != 1 {
			t.Error(n.Next(), n.Kept(), n.Log(), n.Views(), n.Waiting())
		}
		// In the new epoch it has marked nothing.
		if out := w.tick(n); slices.ContainsFunc(out.All, isMark) {
			t.Error(out)
		}
		// Without a quorum of just that mark it stays.
		w.finish(n)
		w.hear(n, w.seal(3, message.Mark(2, api.Digest{1})))
		w.hear(n, w.seal(2, message.Mark(2, state.Digest(w.later(after)))))
		if n.State().Epoch != 2 || n.Ended() {
			t.Error(n.State())
		}
		w.hear(n, w.seal(0, message.Mark(2, state.Digest(w.later(after)))))
		if n.State().Epoch != 2 || !n.Ended() {
			t.Error(n.State())
		}
	}
}

// What an epoch left as nothing is its leader's fault.
func TestEntersWithoutALeader(t *testing.T) {
	w := four(t)
	n, _ := w.fresh(0)
	none := w.decided(1, 3, batch.None())
	w.hear(n, w.said(1, none))
	w.finish(n)
	d := n.now.digest
	for _, i := range []int{1, 3} {
		w.hear(n, w.seal(i, message.Mark(1, d)))
	}
	if s := n.State(); s.Epoch != 2 || s.Penal[2] != 3 || len(n.Views()) != 3 || n.Next() != 9 {
		t.Error(s, n.Views())
	}
}

func TestEnds(t *testing.T) {
	w := four(t)
	w.c.Last = 1
	n, disk := w.fresh(0)
	w.finish(n)
	mark := message.Mark(1, n.now.digest)
	w.hear(n, w.seal(2, mark))
	if n.Ended() {
		t.Error("ended with two marks")
	}
	w.hear(n, w.seal(1, mark))
	if !n.Ended() || n.State().Epoch != 1 || n.Kept() != 8 || n.Next() != 9 || !n.On() {
		t.Error(n.Ended(), n.State())
	}
	// It tells on, but proposes nothing: its own slots have accepted none.
	for range 2 {
		out, err := n.Tick()
		if err != api.ErrEnd {
			t.Error(int(err))
		}
		w.says(0, out, mark, w.status(1, 9))
	}
	out := w.hear(n, w.seal(3, w.status(1, 7)))
	if out.To != 3 || len(out.Direct) != 2 {
		t.Error(out)
	}
	w.hear(n, w.seal(3, mark))
	// There is no epoch behind the last one.
	after := n.now.after
	if out := w.hear(n, w.said(1, w.marked(after, 0, 1, 2))); !isNothing(out) || n.State().Epoch != 1 {
		t.Error(out, n.State())
	}
	// Started again it has to hear the marks again.
	disk.Fail(0)
	disk.Power()
	n = w.open(0, disk)
	if n.Ended() {
		t.Error("nobody marked")
	}
	for i := range 2 {
		w.hear(n, w.seal(i+1, mark))
	}
	if _, err := n.Tick(); err != api.ErrEnd || !n.Ended() {
		t.Error(int(err))
	}
}

func TestHearStatus(t *testing.T) {
	w := four(t)
	n, _ := w.fresh(0)
	// Nothing is there yet; of an epoch below the first one the first state, that nobody signed, is told.
	for _, s := range []string{w.status(1, 1), w.status(1, 2), w.status(2, 1)} {
		if out := w.hear(n, w.seal(2, s)); !isNothing(out) {
			t.Error(out)
		}
	}
	out := w.hear(n, w.seal(2, w.status(0, 1)))
	first := w.bytes(api.Msg{Kind: api.MsgState, State: state.Bytes(state.First(w.c))})
	if out.To != 2 || !slices.Equal(w.bodies(0, out.Direct), []string{first}) || len(out.All) != 0 {
		t.Error(out)
	}
	// Slots 1 to 3 and 5, 6 are there.
	var entries []string
	for _, slot := range []int{1, 2, 3, 5, 6} {
		m := w.decided(1, slot, api.Batch{})
		w.hear(n, w.said(1, m))
		entries = append(entries, w.bytes(m))
	}
	for slot, want := range map[int][]string{0: entries[:4], 1: entries[:4], 2: entries[1:5], 3: entries[2:]} {
		out := w.hear(n, w.seal(3, w.status(1, slot)))
		if out.To != 3 || len(out.All) != 0 || !slices.Equal(w.bodies(0, out.Direct), want) {
			t.Errorf("from %d: %s", slot, words(w.bodies(0, out.Direct)))
		}
	}
	for _, s := range []string{w.status(1, 4), w.status(1, 5), w.status(1, api.MaxNum), w.status(2, 1), w.status(api.MaxEpoch, 0)} {
		if out := w.hear(n, w.seal(3, s)); !isNothing(out) {
			t.Error(out)
		}
	}
	// Of a later epoch its state is told, whatever the slot.
	m := w.marked(w.later(state.First(w.c)), 1, 2, 3)
	w.hear(n, w.said(2, m))
	for _, s := range []string{w.status(1, 1), w.status(1, api.MaxNum), w.status(0, 0)} {
		out := w.hear(n, w.seal(1, s))
		if out.To != 1 || !slices.Equal(w.bodies(0, out.Direct), []string{w.bytes(m)}) || len(out.All) != 0 {
			t.Error(out)
		}
	}
	if out := w.hear(n, w.seal(1, w.status(2, 9))); !isNothing(out) {
		t.Error(out)
	}
}

func TestHearState(t *testing.T) {
	w := four(t)
	n, disk := w.fresh(2)
	e := w.first()
	done, waits := w.of(e, 0, 0, 0), w.of(e, 0, 1, 0)
	for _, r := range []api.Request{done, waits} {
		if err := n.Submit(r); err != api.OK {
			t.Fatal(int(err))
		}
	}
	w.hear(n, w.said(1, w.decided(1, 2, api.Batch{})))
	w.tick(n)

	third := w.later(w.later(state.First(w.c)))
	third.Count, third.Penal[1] = 1, 4
	third.Clients[0] = api.Window{Base: done.Num + 1}
	m := w.marked(third, 0, 1, 3)
	few := w.marked(third, 0, 1)
	other := m
	other.State = state.Bytes(w.later(third))
	cut := m
	cut.State = m.State[1:]
	first := state.First(w.c)
	w.refused(n, disk, w.said(1, few), api.ErrSigns)
	w.refused(n, disk, w.said(1, other), api.ErrSigns)
	w.refused(n, disk, w.said(1, api.Msg{Kind: api.MsgState}), api.ErrCut)
	w.refused(n, disk, w.said(1, api.Msg{Kind: api.MsgState, State: m.State + "x", Signs: m.Signs}), api.ErrMore)
	w.refused(n, disk, w.said(1, w.marked(first, 0, 1, 2)), api.ErrMark)
	// An epoch that has no slots may not be entered.
	far := third
	far.Next = api.MaxNum
	w.refused(n, disk, w.said(1, w.marked(far, 0, 1, 2)), api.ErrEpoch)
	// Behind the last one there is nothing to enter.
	over := third
	over.Epoch = w.c.Last + 1
	was := seen(n, disk)
	if out := w.hear(n, w.said(1, w.marked(over, 0, 1, 2))); !isNothing(out) || seen(n, disk) != was {
		t.Error(out)
	}

	if out := w.hear(n, w.said(1, m)); !isNothing(out) {
		t.Error(out)
	}
	if !state.Same(n.State(), third) || !slices.Equal(n.Signs(), m.Signs) || n.Count() != 1 || n.Chain() != third.Chain {
		t.Error(n.State(), n.Signs(), n.Count())
	}
	if n.Next() != third.Next || n.Kept() != 0 || len(n.Log()) != 0 || n.Waiting() != 1 || !slices.Equal(n.Views(), []int{0, 0, 0}) {
		t.Error(n.Next(), n.Kept(), n.Log(), n.Waiting(), n.Views())
	}
	// The journal has that state alone.
	if _, recs, err := journal.Open(disk); err != api.OK || len(recs) != 1 || string(recs[0]) != string(w.rec(api.Rec{Kind: api.RecState, State: m.State, Signs: m.Signs})) {
		t.Error(int(err), len(recs))
	}
	disk.Fail(0)
	disk.Power()
	n = w.open(2, disk)
	if !state.Same(n.State(), third) || !slices.Equal(n.Signs(), m.Signs) || n.Waiting() != 0 {
		t.Error(n.State(), n.Signs())
	}
	// Nothing but a later one is entered.
	was = seen(n, disk)
	for _, s := range []api.State{third, w.later(state.First(w.c))} {
		if out := w.hear(n, w.said(1, w.marked(s, 0, 1, 2))); !isNothing(out) || seen(n, disk) != was {
			t.Error(out)
		}
	}
}

// A view is gone to, and its beginning heard, in the segment of which it is.
func TestHearViews(t *testing.T) {
	w := four(t)
	n, _ := w.fresh(3)
	body := change.Body(api.Change{Epoch: 1, Leader: 1, View: 1})
	w.says(3, w.hear(n, w.seal(0, body)))
	w.says(3, w.hear(n, w.seal(2, body)), body)
	if !slices.Equal(n.Views(), []int{0, 1, 0, 0}) || !n.journal.Sure() {
		t.Error(n.Views())
	}
	none := batch.None()
	w.says(3, w.hear(n, w.said(2, w.begins(1, 1, 1))),
		message.Vote(w.vote(api.Prepare, 1, 1, 2, none)), message.Vote(w.vote(api.Prepare, 1, 1, 6, none)))
	w.hear(n, w.said(1, w.begins(1, 2, 3)))
	if !slices.Equal(n.Views(), []int{0, 1, 3, 0}) {
		t.Error(n.Views())
	}
}

// The journal is made short, when it has more than a quarter of the bound.

func TestMadeShort(t *testing.T) {
	for _, later := range []bool{false, true} {
		w := four(t)
		n, disk := w.fresh(3)
		number, start := 1, 1
		if later {
			second := w.later(state.First(w.c))
			w.hear(n, w.said(1, w.marked(second, 0, 1, 2)))
			number, start = 2, second.Next
		}
		e := w.epoch(n.State())
		x := api.Batch{Requests: []api.Request{w.of(e, 0, 0, 0), w.of(e, 0, 1, 0)}}
		w.hear(n, w.said(1, w.decided(number, start, x)))
		w.tick(n)
		short := 0
		for view := 1; short < 3; view++ {
			leader := view % 3
			primary := epoch.Primary(e, leader, view)
			if primary == 3 {
				continue
			}
			was, turn := n.journal.Bytes(), n.journal.Turn()
			w.hear(n, w.said(primary, w.begins(number, leader, view)))
			switch long := was > Bound(w.c)/4; {
			case long != (n.journal.Turn() == turn+1):
				t.Fatalf("%d bytes of %d: turn %d behind %d", was, Bound(w.c), n.journal.Turn(), turn)
			case long:
				short++
				if n.journal.Bytes() > Bound(w.c)/8 || !n.journal.Sure() {
					t.Error(n.journal.Bytes())
				}
			}
			if disk.Used() > Bound(w.c) {
				t.Fatal(disk.Used())
			}
			if view%50 == 0 || n.journal.Turn() != turn {
				w.comesBack(n, disk)
			}
		}
	}
}

// comesBack tests that a node that is opened on what the tape has is as the one that wrote it.
func (w world) comesBack(n *Node, disk interface {
	Read(area int) ([]byte, api.Errno)
}) {
	w.t.Helper()
	copied := w.disk()
	for area := range 2 {
		b, _ := disk.Read(area)
		copied.Append(area, b)
		copied.Sync(area)
	}
	again := w.open(n.me, copied)
	if !state.Same(again.State(), n.State()) || !slices.Equal(again.Signs(), n.Signs()) || !slices.Equal(again.Log(), n.Log()) || !slices.Equal(again.Views(), n.Views()) {
		w.t.Errorf("%+v %v comes back as %+v %v", n.State(), n.Views(), again.State(), again.Views())
	}
	if again.Next() != n.Next() || again.Kept() != n.Kept() || again.Count() != n.Count() || again.Chain() != n.Chain() {
		w.t.Error(again.Next(), again.Kept(), again.Count())
	}
	var old, now []string
	for i, s := range n.now.inOrder() {
		old = append(old, s.Again()...)
		now = append(now, again.now.inOrder()[i].Again()...)
	}
	old = slices.DeleteFunc(old, func(body string) bool {
		m, _ := message.Decode(body)
		return m.Kind == api.MsgNew
	})
	if !slices.Equal(old, now) {
		w.t.Errorf("said %s\ncomes back as %s", words(old), words(now))
	}
}

// What is made short has the state, and all segments' records, in the leaders' order.
func TestWhatIsMadeShort(t *testing.T) {
	w := four(t)
	n, disk := w.fresh(3)
	second := w.later(state.First(w.c))
	m := w.marked(second, 0, 1, 2)
	w.hear(n, w.said(1, m))
	want := [][]byte{w.rec(api.Rec{Kind: api.RecState, State: m.State, Signs: m.Signs})}
	w.hear(n, w.said(1, w.decided(2, 10, api.Batch{})))
	w.hear(n, w.said(1, w.decided(2, 9, api.Batch{})))
	w.tick(n)
	want = append(want,
		w.rec(w.entryRec(2, 9, api.Batch{})), w.rec(w.entryRec(2, 10, api.Batch{})),
		w.rec(api.Rec{Kind: api.RecAccept, Slot: 12}))
	for n.journal.Bytes() <= Bound(w.c)/4 {
		n.journal.Append(w.rec(api.Rec{Kind: api.RecView, Leader: 2, View: 0}))
	}
	// The slot that is accepted now is in the segment already, and behind it all once more.
	w.hear(n, w.seal(0, w.propose(2, 13, api.Batch{})))
	accept := w.rec(api.Rec{Kind: api.RecAccept, Slot: 13})
	want = slices.Insert(want, 2, accept)
	want = append(want, accept)
	_, recs, err := journal.Open(disk)
	if err != api.OK || !slices.EqualFunc(recs, want, slices.Equal) {
		for _, b := range recs {
			r, _ := record.Decode(b)
			t.Logf("%+v", r)
		}
		t.Error(int(err), len(recs), len(want))
	}
}

// Whatever is signed is heard, or refused, and no more.
func TestHearWhatever(t *testing.T) {
	w := four(t)
	w.c.Last = 1000
	g := w.group()
	for num := 1; num <= 8; num++ {
		for _, n := range g.nodes {
			n.Submit(w.request(num%2, num, "data"))
		}
	}
	g.rounds(20, 2)
	g.rounds(5)
	below := random(7)
	n, disk := w.fresh(0)
	took := 0
	for range 4000 {
		x, err := g.net.Past(below(g.net.Sent()))
		if err != api.OK {
			t.Fatal(int(err))
		}
		body := []byte(x.Body)
		if below(3) > 0 {
			body[below(len(body))] += byte(1 + below(255))
		}
		if below(9) == 0 {
			body = body[:below(len(body))]
		}
		x = w.seal(1+below(3), string(body))
		was, many := seen(n, disk), n.Rejects()
		out, err := n.Hear(x)
		if !n.On() || disk.Used() > Bound(w.c) {
			t.Fatalf("Hear of %x: %d", body, int(err))
		}
		switch {
		case err == api.OK:
			took++
		case seen(n, disk) != was || n.Rejects() != many+1 || !isNothing(out):
			t.Errorf("Hear of %x: %d, and changes something", body, int(err))
		}
		if below(20) == 0 {
			w.tick(n)
		}
	}
	if took == 0 || took == 4000 {
		t.Error(took)
	}
}
