package node

import (
	"math"
	"slices"
	"strings"
	"testing"

	"raddle/api"
	"raddle/batch"
	"raddle/epoch"
	"raddle/journal"
	"raddle/message"
	"raddle/record"
	"raddle/seal"
	"raddle/state"
	"raddle/tally"
	"raddle/tape"
)

// badConfigs are configs that may not be.
func badConfigs() []api.Config {
	l := []api.Config{{}}
	for _, n := range []int{math.MinInt, -1, 0, 3, 5, 65, math.MaxInt} {
		c := config()
		c.Nodes = n
		l = append(l, c)
	}
	for _, change := range []func(c *api.Config){
		func(c *api.Config) { c.Clients = 0 }, func(c *api.Config) { c.Clients = api.MaxClients + 1 },
		func(c *api.Config) { c.Window = 0 }, func(c *api.Config) { c.Buckets = 5 }, func(c *api.Config) { c.Cap = 0 },
		func(c *api.Config) { c.Slots = api.MaxSlots + 1 }, func(c *api.Config) { c.Slots = math.MaxInt }, func(c *api.Config) { c.Requests = 0 },
		func(c *api.Config) { c.Timeout = api.MinTimeout - 1 }, func(c *api.Config) { c.Penalty = -1 }, func(c *api.Config) { c.Last = 0 },
	} {
		c := config()
		change(&c)
		l = append(l, c)
	}
	return l
}

func greatest() api.Config {
	return api.Config{Nodes: 64, Clients: 8, Window: 64, Buckets: 64, Cap: 16, Slots: 4, Requests: 4, Timeout: 64, Penalty: 8, Last: api.MaxEpoch}
}

// P25.1

func TestBound(t *testing.T) {
	if got := Bound(config()); got != 163328 {
		t.Error(got)
	}
	if got := Bound(greatest()); got != 8*(4096+4096+256+256*(800+2080+2560)) {
		t.Error(got)
	}
	c := config()
	c.Clients, c.Slots, c.Requests = 1, 1, 1
	if got := Bound(c); got != 8*(4096+256+32+4*(800+520+160)) {
		t.Error(got)
	}
	for _, c := range badConfigs() {
		if got := Bound(c); got != 0 {
			t.Errorf("of %+v: %d", c, got)
		}
	}
}

// What a node keeps at least, at its greatest, is an eighth: it may stand there twice and more while it is laid anew.
func TestBoundIsEnough(t *testing.T) {
	for _, nodes := range []int{4, 7, 31, 64} {
		for _, many := range []int{1, 4} {
			c := greatest()
			c.Nodes, c.Buckets, c.Slots, c.Requests = nodes, nodes, many, many
			var signs []api.Sign
			for i := range nodes {
				signs = append(signs, api.Sign{Node: i, Tag: api.Tag{1}})
			}
			var b api.Batch
			for range many {
				b.Requests = append(b.Requests, api.Request{Client: 7, Num: api.MaxNum, Data: strings.Repeat("x", api.MaxData)})
			}
			cert := api.Cert{Vote: api.Vote{Kind: api.Commit, Epoch: api.MaxEpoch, View: api.MaxNum, Slot: api.MaxNum}, Signs: signs}
			s := api.State{Epoch: api.MaxEpoch, Next: api.MaxNum, Count: api.MaxNum}
			for range c.Clients {
				s.Clients = append(s.Clients, api.Window{Base: api.MaxNum - 64, Bits: math.MaxUint64 - 1})
			}
			for range nodes {
				s.Penal = append(s.Penal, api.MaxEpoch+16)
			}
			accept := api.Rec{Kind: api.RecAccept, Slot: api.MaxNum, View: api.MaxNum, Batch: b}
			held := api.Rec{Kind: api.RecHeld, Batch: b, Cert: cert}
			entry := api.Rec{Kind: api.RecEntry, Batch: b, Cert: cert}
			view := api.Rec{Kind: api.RecView, Leader: nodes - 1, View: api.MaxNum}
			size := func(l ...api.Rec) (sum int) {
				for _, r := range l {
					rec, err := record.Encode(r)
					if err != api.OK {
						t.Fatal(int(err))
					}
					sum += len(journal.Frame('D', rec))
				}
				return sum
			}
			turn := len(journal.Frame('G', tally.Put(nil, api.MaxNum)))
			all := size(api.Rec{Kind: api.RecState, State: state.Bytes(s), Signs: signs}) + turn + nodes*(size(view)+many*size(accept, held, accept, entry))
			if all > Bound(c)/8 {
				t.Errorf("%d nodes, %d slots: %d bytes of %d", nodes, many, all, Bound(c)/8)
			}
		}
	}
}

// P25.2

func TestOpenErrors(t *testing.T) {
	w := four(t)
	off := w.disk()
	off.Fail(0)
	late := w.disk()
	late.Append(0, journal.Frame('G', tally.Put(nil, api.MaxNum)))
	for _, x := range []struct {
		c    api.Config
		k    *seal.Keys
		me   int
		t    *tape.Tape
		want api.Errno
	}{
		{api.Config{}, nil, -1, nil, api.ErrConfig},
		{api.Config{}, w.k, 0, w.disk(), api.ErrConfig},
		{w.c, nil, 0, w.disk(), api.ErrNil},
		{w.c, &seal.Keys{}, 0, w.disk(), api.ErrNil},
		{w.c, w.k, 0, nil, api.ErrNil},
		{w.c, w.k, 0, &tape.Tape{}, api.ErrNil},
		{w.c, nil, 4, w.disk(), api.ErrNil},
		{w.c, w.k, 4, nil, api.ErrNil},
		{w.c, w.k, -1, &tape.Tape{}, api.ErrNil},
		{w.c, w.k, 4, off, api.ErrArg},
		{w.c, w.k, -1, w.disk(), api.ErrArg},
		{w.c, w.k, math.MaxInt, w.disk(), api.ErrArg},
		{w.c, w.k, math.MinInt, w.disk(), api.ErrArg},
		{w.c, w.k, 3, off, api.ErrPower},
		{w.c, w.k, 3, tape.New(0), api.ErrRoom},
		{w.c, w.k, 3, late, api.ErrArg},
		{w.c, w.k, 3, w.disk(), api.OK},
	} {
		n, err := Open(x.c, x.k, x.me, x.t)
		if err != x.want || (n != nil) != (x.want == api.OK) {
			t.Errorf("Open(%+v, %v, %d): %d, want %d", x.c, x.k != nil, x.me, int(err), int(x.want))
		}
	}
	for _, c := range badConfigs() {
		if n, err := Open(c, w.k, 0, w.disk()); n != nil || err != api.ErrConfig {
			t.Errorf("Open(%+v): %d", c, int(err))
		}
	}
}

// kept is a tape on which a journal has those records.
func (w world) kept(recs ...[]byte) *tape.Tape {
	w.t.Helper()
	t := w.disk()
	j, _, err := journal.Open(t)
	if err != api.OK {
		w.t.Fatal(int(err))
	}
	for _, r := range recs {
		if err := j.Append(r); err != api.OK {
			w.t.Fatal(int(err))
		}
	}
	return t
}

func (w world) rec(r api.Rec) []byte {
	w.t.Helper()
	b, err := record.Encode(r)
	if err != api.OK {
		w.t.Fatal(int(err))
	}
	return b
}

// stateRec is the record of a state that nodes 0, 1 and 2 marked.
func (w world) stateRec(s api.State) api.Rec {
	m := w.marked(s, 0, 1, 2)
	return api.Rec{Kind: api.RecState, State: m.State, Signs: m.Signs}
}

func (w world) entryRec(number, slot int, b api.Batch) api.Rec {
	m := w.decided(number, slot, b)
	return api.Rec{Kind: api.RecEntry, Batch: m.Batch, Cert: m.Cert}
}

func TestOpenRefusesRecords(t *testing.T) {
	w := four(t)
	second := w.later(state.First(w.c))
	good := w.stateRec(second)
	few := good
	few.Signs = few.Signs[:2]
	other := good
	other.State = state.Bytes(w.later(second))
	first := api.Rec{Kind: api.RecState, State: state.Bytes(state.First(w.c)), Signs: w.signs(message.Mark(0, state.Digest(state.First(w.c))), 0, 1, 2)}
	over := second
	over.Epoch = w.c.Last + 1
	far := second
	far.Next = api.MaxNum
	accept := api.Rec{Kind: api.RecAccept, Slot: 1}
	held := api.Rec{Kind: api.RecHeld, Cert: w.cert(w.vote(api.Prepare, 1, 0, 1, api.Batch{}), 0, 1, 2)}
	wrongKind := api.Rec{Kind: api.RecEntry, Cert: held.Cert}
	for name, l := range map[string][][]byte{
		"no record":                {{}},
		"a record and more":        {append(w.rec(accept), 0)},
		"no record ahead":          {{7}, w.rec(good)},
		"few signs":                {w.rec(few)},
		"another state's signs":    {w.rec(other)},
		"the first state":          {w.rec(first)},
		"a state behind the last":  {w.rec(w.stateRec(over))},
		"a state without slots":    {w.rec(w.stateRec(far))},
		"bytes that are no state":  {w.rec(api.Rec{Kind: api.RecState, State: "x"})},
		"the last state of two":    {w.rec(good), w.rec(few)},
		"held, and not accepted":   {w.rec(held)},
		"two unlike ones":          {w.rec(accept), w.rec(api.Rec{Kind: api.RecAccept, Slot: 1, Batch: batch.None()})},
		"no slot of the epoch's":   {w.rec(api.Rec{Kind: api.RecAccept, Slot: 9})},
		"slot 0":                   {w.rec(api.Rec{Kind: api.RecAccept})},
		"a slot of the epoch past": {w.rec(good), w.rec(accept)},
		"an entry of no slot":      {w.rec(w.entryRec(1, 9, api.Batch{}))},
		"no leader":                {w.rec(api.Rec{Kind: api.RecView, Leader: 4, View: 1})},
		"a prepared one, decided":  {w.rec(wrongKind)},
	} {
		if n, err := Open(w.c, w.k, 1, w.kept(l...)); n != nil || err != api.ErrRecord {
			t.Errorf("%s: %d", name, int(err))
		}
	}
}

// A journal without a state is one of the first epoch.
func TestOpenLoadsTheFirstEpoch(t *testing.T) {
	w := four(t)
	e := w.first()
	x := api.Batch{Requests: []api.Request{w.of(e, 0, 0, 0), w.of(e, 0, 1, 0)}}
	mine := api.Batch{Requests: []api.Request{w.of(e, 1, 0, 0)}}
	prepared := w.cert(w.vote(api.Prepare, 1, 0, 2, mine), 1, 2, 3)
	disk := w.kept(
		w.rec(w.entryRec(1, 1, x)),
		w.rec(api.Rec{Kind: api.RecAccept, Slot: 2, Batch: mine}),
		w.rec(api.Rec{Kind: api.RecHeld, Batch: mine, Cert: prepared}),
		w.rec(api.Rec{Kind: api.RecView, Leader: 3, View: 2}),
		w.rec(w.entryRec(1, 3, api.Batch{})),
	)
	n := w.open(1, disk)
	log := []api.Delivered{{Index: 1, Slot: 1, Request: x.Requests[0]}, {Index: 2, Slot: 1, Request: x.Requests[1]}}
	switch {
	case !state.Same(n.State(), state.First(w.c)) || len(n.Signs()) != 0:
		t.Error(n.State(), n.Signs())
	case n.Next() != 2 || n.Count() != 2 || n.Kept() != 2 || !slices.Equal(n.Log(), log):
		t.Error(n.Next(), n.Count(), n.Kept(), n.Log())
	case !slices.Equal(n.Views(), []int{0, 0, 0, 2}):
		t.Error(n.Views())
	case n.Waiting() != 0 || n.Rejects() != 0 || n.Ended() || !n.On():
		t.Error(n.Waiting(), n.Rejects(), n.Ended(), n.On())
	}
	l, err := state.Ledger(w.c, state.First(w.c))
	if _, err2 := l.Put(api.Entry{Slot: 1, Batch: x}); err != api.OK || err2 != api.OK || n.Chain() != l.Chain() {
		t.Error(n.Chain())
	}
	// What it said it says again, behind what it proposes for its other slot.
	next := e.Start + 5
	empty := w.propose(1, next, api.Batch{})
	voted := message.Vote(w.vote(api.Prepare, 1, 0, next, api.Batch{}))
	change := w.bytes(api.Msg{Kind: api.MsgChange, Change: api.Change{Epoch: 1, Leader: 3, View: 2}})
	w.says(1, w.tick(n), empty, voted,
		w.propose(1, 2, mine), message.Vote(w.vote(api.Prepare, 1, 0, 2, mine)), message.Vote(w.vote(api.Commit, 1, 0, 2, mine)),
		empty, voted, change, w.status(1, 2))
}

// What stands ahead of the last state is not looked at.
func TestOpenLoadsALaterEpoch(t *testing.T) {
	w := four(t)
	second := w.later(state.First(w.c))
	third := w.later(second)
	third.Penal[2] = 4
	e := w.epoch(third)
	slot := e.Start
	disk := w.kept(
		w.rec(api.Rec{Kind: api.RecHeld, Cert: api.Cert{Vote: api.Vote{Kind: api.Prepare}}}),
		w.rec(w.stateRec(second)),
		w.rec(api.Rec{Kind: api.RecAccept, Slot: 1}),
		w.rec(w.stateRec(third)),
		w.rec(w.entryRec(3, slot, batch.None())),
		w.rec(api.Rec{Kind: api.RecView, Leader: 3, View: 1}),
	)
	n := w.open(2, disk)
	if !state.Same(n.State(), third) || !slices.Equal(n.Signs(), w.stateRec(third).Signs) || n.Next() != slot+1 || n.Kept() != 1 {
		t.Error(n.State(), n.Signs(), n.Next(), n.Kept())
	}
	// Node 2 sits out.
	if !slices.Equal(n.Views(), []int{0, 0, 1}) {
		t.Error(n.Views())
	}
}

// A ledger that is done is marked as soon as it is there again.
func TestOpenMarks(t *testing.T) {
	w := four(t)
	end := epoch.End(w.first())
	var recs [][]byte
	for slot := 1; slot < end; slot++ {
		// Not done yet: nothing is marked.
		n := w.open(3, w.kept(recs...))
		if got := w.tick(n); slices.ContainsFunc(got.All, isMark) {
			t.Errorf("marked at slot %d", slot)
		}
		recs = append(recs, w.rec(w.entryRec(1, slot, api.Batch{})))
	}
	n := w.open(3, w.kept(recs...))
	after := w.later(state.First(w.c))
	mark := message.Mark(1, state.Digest(after))
	// It has marked: another's mark is no reason to say so.
	w.says(3, w.hear(n, w.seal(0, mark)))
	if got := w.tick(n); !slices.Contains(w.bodies(3, got.All), mark) {
		t.Errorf("said %s", words(w.bodies(3, got.All)))
	}
	if n.State().Epoch != 1 {
		t.Error("two marks are no quorum")
	}
	w.hear(n, w.seal(2, mark))
	if !state.Same(n.State(), after) || !slices.Equal(n.Signs(), w.signs(mark, 0, 2, 3)) {
		t.Error(n.State(), n.Signs())
	}
}

func isMark(x api.Envelope) bool {
	m, err := message.Decode(x.Body)
	return err == api.OK && m.Kind == api.MsgMark
}
