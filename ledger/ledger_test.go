package ledger

import (
	"crypto/sha256"
	"fmt"
	"math"
	"reflect"
	"slices"
	"testing"

	"raddle/api"
	"raddle/batch"
	"raddle/epoch"
	"raddle/window"
)

// config is one that may be, of four nodes with two slots a leader and two clients.
func config() api.Config {
	return api.Config{Nodes: 4, Clients: 2, Window: 4, Buckets: 4, Cap: 2, Slots: 2, Requests: 2, Timeout: 12, Penalty: 1, Last: 9}
}

// nine is epoch 3 of that config, all four leading: slots 9 to 16, slot 9 is leader 0's, slot 10 leader 1's.
func nine() epoch.Epoch {
	return epoch.Epoch{Config: config(), Number: 3, Start: 9, Leaders: []int{0, 1, 2, 3}}
}

// fresh is two new clients' windows.
func fresh() []api.Window {
	return []api.Window{window.New(), window.New()}
}

func made(t *testing.T, e epoch.Epoch, chain api.Digest, count int, clients []api.Window) *Ledger {
	t.Helper()
	l, err := New(e, chain, count, clients)
	if err != api.OK || l == nil {
		t.Fatalf("New(%+v, %x, %d, %v): %d", e, chain, count, clients, int(err))
	}
	return l
}

// plain is a ledger of nine without entries.
func plain(t *testing.T) *Ledger {
	t.Helper()
	return made(t, nine(), api.Digest{}, 0, fresh())
}

// asks is a batch of a client's numbers.
func asks(client int, nums ...int) api.Batch {
	var b api.Batch
	for _, num := range nums {
		b.Requests = append(b.Requests, api.Request{Client: client, Num: num, Data: fmt.Sprint(client, " ", num)})
	}
	return b
}

func at(slot int, b api.Batch) api.Entry {
	return api.Entry{Slot: slot, Batch: b, Cert: certOf(slot)}
}

// certOf is a cert that tells by its numbers whose it is; a ledger takes certs as they are.
func certOf(slot int) api.Cert {
	return api.Cert{Vote: api.Vote{Kind: api.Commit, Slot: slot}, Signs: []api.Sign{{Node: slot % 4}}}
}

// put puts an entry in that must be taken.
func put(t *testing.T, l *Ledger, x api.Entry) []api.Delivered {
	t.Helper()
	out, err := l.Put(x)
	if err != api.OK {
		t.Fatalf("Put(%v): %d", x, int(err))
	}
	return out
}

// face is all that a ledger tells.
type face struct {
	next, count, len int
	done             bool
	chain            api.Digest
	clients          []api.Window
	bad              []int
	entries          []api.Entry
}

func faceOf(l *Ledger) face {
	return face{
		next: l.Next(), count: l.Count(), len: l.Len(), done: l.Done(), chain: l.Chain(),
		clients: l.Clients(), bad: l.Bad(), entries: l.Entries(math.MinInt, math.MaxInt),
	}
}

func sameFace(a, b face) bool {
	return reflect.DeepEqual(a, b)
}

// number is a number's bytes by the document's words.
func number(n int) []byte {
	var low []byte
	for ; n > 0; n >>= 8 {
		low = append(low, byte(n))
	}
	slices.Reverse(low)
	return append([]byte{byte(len(low))}, low...)
}

// linked is a chain behind one more slot, by the document's words.
func linked(chain api.Digest, slot int, b api.Batch) api.Digest {
	d := batch.Digest(b)
	return sha256.Sum256(slices.Concat(chain[:], number(slot), d[:]))
}

// told are the pairs, places and slots that were delivered.
func told(l []api.Delivered) string {
	out := ""
	for _, x := range l {
		out += fmt.Sprintf("%d@%d:%d/%d ", x.Index, x.Slot, x.Request.Client, x.Request.Num)
	}
	return out
}

// chance makes numbers below n without a rule that is seen, the same in each run.
func chance(seed uint64) func(n int) int {
	return func(n int) int {
		seed = seed*6364136223846793005 + 1442695040888963407
		return int(seed>>33) % n
	}
}

// The chapter's example.

func TestExample(t *testing.T) {
	e := nine()
	e.Start = 1
	l := made(t, e, api.Digest{}, 0, fresh())
	if out := put(t, l, at(2, asks(0, 1))); len(out) != 0 {
		t.Error(out)
	}
	if got, want := told(put(t, l, at(1, asks(1, 1, 2)))), "1@1:1/1 2@1:1/2 3@2:0/1 "; got != want {
		t.Error(got)
	}
}

// P21.1

func TestNew(t *testing.T) {
	w := []api.Window{{Base: 7, Bits: 6}, {Base: api.MaxNum + 1}}
	l := made(t, nine(), api.Digest{1, 31: 2}, 77, w)
	got := faceOf(l)
	want := face{next: 9, count: 77, chain: api.Digest{1, 31: 2}, clients: w}
	if !sameFace(got, want) {
		t.Errorf("%+v", got)
	}
}

func TestNewErrors(t *testing.T) {
	with := func(change func(e *epoch.Epoch)) epoch.Epoch {
		e := nine()
		change(&e)
		return e
	}
	good := nine()
	one := []api.Window{window.New()}
	for _, x := range []struct {
		name    string
		e       epoch.Epoch
		count   int
		clients []api.Window
		want    api.Errno
	}{
		{"all is well", good, 0, fresh(), api.OK},
		{"MaxNum", good, api.MaxNum, fresh(), api.OK},
		{"the last start", with(func(e *epoch.Epoch) { e.Start = api.MaxNum - 8 }), 0, fresh(), api.OK},
		{"one leader", with(func(e *epoch.Epoch) { e.Leaders = []int{2} }), 0, fresh(), api.OK},
		{"one client", with(func(e *epoch.Epoch) { e.Config.Clients = 1 }), 0, one, api.OK},
		{"no epoch", epoch.Epoch{}, 0, nil, api.ErrEpoch},
		{"no epoch, but clients", epoch.Epoch{}, 0, fresh(), api.ErrEpoch},
		{"no epoch, and all else wrong", epoch.Epoch{}, -1, []api.Window{{}}, api.ErrEpoch},
		{"no leaders", with(func(e *epoch.Epoch) { e.Leaders = nil }), 0, fresh(), api.ErrEpoch},
		{"number 0", with(func(e *epoch.Epoch) { e.Number = 0 }), 0, fresh(), api.ErrEpoch},
		{"number beyond Last", with(func(e *epoch.Epoch) { e.Number = 10 }), 0, fresh(), api.ErrEpoch},
		{"start 0", with(func(e *epoch.Epoch) { e.Start = 0 }), 0, fresh(), api.ErrEpoch},
		{"start beyond", with(func(e *epoch.Epoch) { e.Start = api.MaxNum - 7 }), 0, fresh(), api.ErrEpoch},
		{"no clients", good, 0, nil, api.ErrState},
		{"a client too few", good, 0, one, api.ErrState},
		{"a client too many", good, 0, append(fresh(), window.New()), api.ErrState},
		{"the first window may not be", good, 0, []api.Window{{}, window.New()}, api.ErrState},
		{"the last window may not be", good, 0, []api.Window{window.New(), {Base: 1, Bits: 1}}, api.ErrState},
		{"a window beyond", good, 0, []api.Window{window.New(), {Base: api.MaxNum + 2}}, api.ErrState},
		{"count -1", good, -1, fresh(), api.ErrState},
		{"the least count", good, math.MinInt, fresh(), api.ErrState},
		{"count beyond", good, api.MaxNum + 1, fresh(), api.ErrState},
		{"the greatest count", good, math.MaxInt, fresh(), api.ErrState},
	} {
		l, err := New(x.e, api.Digest{5}, x.count, x.clients)
		if err != x.want || (err == api.OK) != (l != nil) {
			t.Errorf("%s: %d, not %d; %v", x.name, int(err), int(x.want), l)
		}
		if err == api.OK && (l.Next() != x.e.Start || l.Count() != x.count || l.Len() != 0 || l.Done()) {
			t.Errorf("%s: %+v", x.name, faceOf(l))
		}
	}
}

func TestNewKeepsCopies(t *testing.T) {
	e, w := nine(), fresh()
	l := made(t, e, api.Digest{}, 0, w)
	e.Leaders[0], w[0], w[1] = 77, api.Window{}, api.Window{Base: 5}
	if !slices.Equal(l.Clients(), fresh()) {
		t.Error(l.Clients())
	}
	if got := told(put(t, l, at(9, asks(0, 1)))); got != "1@9:0/1 " {
		t.Error(got)
	}
	if w[0] != (api.Window{}) || w[1] != (api.Window{Base: 5}) {
		t.Error("what was handed in is another", w)
	}
}

// P21.2

func TestPutTellsInOrder(t *testing.T) {
	l := made(t, nine(), api.Digest{9}, 40, []api.Window{{Base: 3, Bits: 4}, window.New()})
	batches := map[int]api.Batch{9: asks(0, 4, 3), 10: batch.None(), 11: {}, 12: asks(1, 2), 13: asks(0, 6)}
	chain, next := api.Digest{9}, 9
	for _, step := range []struct {
		slot, next int
		want       string
	}{
		{11, 9, ""}, {12, 9, ""}, {10, 9, ""}, {9, 13, "41@9:0/4 42@9:0/3 43@12:1/2 "}, {13, 14, "44@13:0/6 "},
	} {
		out := put(t, l, at(step.slot, batches[step.slot]))
		for ; next < step.next; next++ {
			chain = linked(chain, next, batches[next])
		}
		if told(out) != step.want || l.Next() != step.next || l.Chain() != chain {
			t.Errorf("slot %d: %q, next %d, chain %x", step.slot, told(out), l.Next(), l.Chain())
		}
	}
	if l.Count() != 44 || !slices.Equal(l.Clients(), []api.Window{{Base: 7}, {Base: 1, Bits: 2}}) || !slices.Equal(l.Bad(), []int{1}) {
		t.Errorf("%+v", faceOf(l))
	}
}

func TestPutTellsRequestsAsTheyAre(t *testing.T) {
	l := plain(t)
	r := api.Request{Client: 1, Num: 2, Data: "data", Tag: api.Tag{1, 15: 9}}
	out := put(t, l, at(9, api.Batch{Requests: []api.Request{r}}))
	if len(out) != 1 || out[0] != (api.Delivered{Index: 1, Slot: 9, Request: r}) {
		t.Error(out)
	}
}

func TestPutSlots(t *testing.T) {
	l := plain(t)
	before := faceOf(l)
	for _, slot := range []int{math.MinInt, -9, -1, 0, 1, 8, 17, 18, api.MaxNum, math.MaxInt} {
		out, err := l.Put(at(slot, asks(0, 1)))
		if err != api.ErrSlot || len(out) != 0 || !sameFace(faceOf(l), before) {
			t.Error(slot, int(err), out)
		}
	}
	for slot := 16; slot >= 9; slot-- {
		put(t, l, at(slot, api.Batch{}))
	}
	if !l.Done() || l.Next() != 17 {
		t.Error(l.Next())
	}
	if _, err := l.Put(at(17, api.Batch{})); err != api.ErrSlot {
		t.Error(int(err))
	}
	// The slot's own number counts, no other one of the entry's.
	if _, err := plain(t).Put(api.Entry{Cert: certOf(9)}); err != api.ErrSlot {
		t.Error(int(err))
	}
}

func TestPutAgain(t *testing.T) {
	l := plain(t)
	put(t, l, at(9, asks(0, 1)))
	put(t, l, at(12, asks(0, 2)))
	put(t, l, at(10, batch.None()))
	before := faceOf(l)
	for slot, b := range map[int]api.Batch{9: asks(0, 1), 12: asks(0, 2), 10: batch.None()} {
		x := api.Entry{Slot: slot, Batch: b, Cert: api.Cert{Vote: api.Vote{View: 3}}}
		if out := put(t, l, x); len(out) != 0 || !sameFace(faceOf(l), before) {
			t.Error(slot, out)
		}
	}
	other := asks(0, 1)
	other.Requests[0].Tag[0]++
	for _, x := range []api.Entry{
		at(9, asks(0, 2)), at(9, other), at(9, asks(0, 1, 2)), at(9, api.Batch{}), at(9, batch.None()),
		at(10, api.Batch{}), at(10, asks(1, 1)), at(12, asks(0, 1)), at(12, batch.None()), {Slot: 12},
	} {
		out, err := l.Put(x)
		if err != api.ErrOther || len(out) != 0 || !sameFace(faceOf(l), before) {
			t.Errorf("%v: %d, %v", x, int(err), out)
		}
	}
	if got := told(put(t, l, at(11, asks(1, 1)))); got != "2@11:1/1 3@12:0/2 " {
		t.Error(got)
	}
}

func TestPutPassesOver(t *testing.T) {
	l := made(t, nine(), api.Digest{}, 0, []api.Window{{Base: 5, Bits: 2}, {Base: api.MaxNum}})
	var b api.Batch
	for _, r := range []api.Request{
		{Client: -1, Num: 5}, {Client: 2, Num: 5}, {Client: math.MinInt, Num: 5}, {Client: math.MaxInt, Num: 5},
		{Num: math.MinInt}, {Num: -1}, {Num: 0}, {Num: 1}, {Num: 4}, {Num: 6}, {Num: 69}, {Num: api.MaxNum}, {Num: api.MaxNum + 1}, {Num: math.MaxInt},
		{Client: 1, Num: api.MaxNum - 1}, {Client: 1, Num: api.MaxNum + 1}, {Client: 1, Num: api.MaxNum + 2},
		{Num: 68, Data: "first"}, {Num: 68, Data: "second"}, {Num: 5}, {Num: 5}, {Client: 1, Num: api.MaxNum}, {Client: 1, Num: api.MaxNum}, {Num: 69}, {Num: 71},
	} {
		b.Requests = append(b.Requests, r)
	}
	out := put(t, l, at(9, b))
	if got := told(out); got != fmt.Sprintf("1@9:0/68 2@9:0/5 3@9:1/%d 4@9:0/69 ", api.MaxNum) {
		t.Error(got)
	}
	if out[0].Request.Data != "first" {
		t.Error(out[0])
	}
	if w := l.Clients(); w[0] != (api.Window{Base: 7, Bits: 1<<61 | 1<<62}) || w[1] != (api.Window{Base: api.MaxNum + 1}) {
		t.Error(w)
	}
	if l.Count() != 4 || l.Chain() != linked(api.Digest{}, 9, b) || len(l.Bad()) != 0 {
		t.Errorf("%+v", faceOf(l))
	}
}

// The config's window says what may be proposed; what was decided is taken as far as a window reaches.
func TestPutTakesBeyondTheConfigsWindow(t *testing.T) {
	if got := told(put(t, plain(t), at(9, asks(1, 64, 65)))); got != "1@9:1/64 " {
		t.Error(got)
	}
}

func TestPutCountsBeyondMaxNum(t *testing.T) {
	l := made(t, nine(), api.Digest{}, api.MaxNum, fresh())
	if got, want := told(put(t, l, at(9, asks(0, 1, 2)))), fmt.Sprintf("%d@9:0/1 %d@9:0/2 ", api.MaxNum+1, api.MaxNum+2); got != want {
		t.Error(got)
	}
	if l.Count() != api.MaxNum+2 {
		t.Error(l.Count())
	}
}

// By its words the document goes through the requests of a Noop, too; no batch that was proposed has both.
func TestPutNoopWithRequests(t *testing.T) {
	l := plain(t)
	b := asks(0, 1)
	b.Noop = true
	if got := told(put(t, l, at(9, b))); got != "1@9:0/1 " || !slices.Equal(l.Bad(), []int{0}) {
		t.Error(got, l.Bad())
	}
}

// P21.3

func TestNextAndDone(t *testing.T) {
	for _, start := range []int{1, 9, api.MaxNum - 8} {
		e := nine()
		e.Start = start
		l := made(t, e, api.Digest{}, 0, fresh())
		for i := range 8 {
			if l.Next() != start+i || l.Done() {
				t.Fatal(start, i, l.Next())
			}
			put(t, l, at(start+i, api.Batch{}))
		}
		if l.Next() != start+8 || !l.Done() {
			t.Error(start, l.Next())
		}
	}
}

func TestBad(t *testing.T) {
	e := nine()
	e.Leaders = []int{0, 2, 3} // 9 and 12 are 0's, 10 and 13 are 2's, 11 and 14 are 3's
	l := made(t, e, api.Digest{}, 0, fresh())
	for _, x := range []struct {
		slot int
		b    api.Batch
		want []int
	}{
		{11, batch.None(), nil}, {14, batch.None(), nil}, {10, api.Batch{}, nil}, {9, api.Batch{}, []int{3}},
		{13, asks(0, 1), []int{3}}, {12, batch.None(), []int{0, 3}},
	} {
		put(t, l, at(x.slot, x.b))
		if got := l.Bad(); !slices.Equal(got, x.want) {
			t.Errorf("slot %d: %v", x.slot, got)
		}
	}
	if !l.Done() {
		t.Error(l.Next())
	}
}

func TestEntries(t *testing.T) {
	l := plain(t)
	slots := []int{9, 10, 12, 13, 16}
	for _, slot := range []int{13, 9, 16, 10, 12} {
		put(t, l, at(slot, asks(0, slot)))
	}
	if l.Len() != 5 {
		t.Error(l.Len())
	}
	for _, from := range []int{math.MinInt, -1, 0, 8, 9, 10, 11, 12, 13, 14, 16, 17, math.MaxInt} {
		for _, most := range []int{math.MinInt, -1, 0, 1, 2, 4, 5, 6, math.MaxInt} {
			var want []int
			for _, slot := range slots {
				if slot >= from && len(want) < most {
					want = append(want, slot)
				}
			}
			got := l.Entries(from, most)
			if len(got) != len(want) {
				t.Fatalf("Entries(%d, %d): %v", from, most, got)
			}
			for i, x := range got {
				if !reflect.DeepEqual(x, at(want[i], asks(0, want[i]))) {
					t.Errorf("Entries(%d, %d): %v", from, most, x)
				}
			}
		}
	}
}

// Rules 4 and 8: lists that are told are others' memory, and nothing lies behind them.
func TestAnswersAreNew(t *testing.T) {
	l := plain(t)
	room := asks(0, 1, 2, 3)
	x := at(9, api.Batch{Requests: room.Requests[:1]})
	x.Cert.Signs = append(make([]api.Sign, 0, 2), api.Sign{Node: 1})
	put(t, l, x)
	put(t, l, at(10, batch.None()))
	put(t, l, at(11, batch.None()))
	if !reflect.DeepEqual(room, asks(0, 1, 2, 3)) {
		t.Error("the spare room was written into", room)
	}
	before := faceOf(l)
	got := faceOf(l)
	for _, r := range got.entries[0].Batch.Requests[:cap(got.entries[0].Batch.Requests)] {
		if r.Num > 1 {
			t.Error("what lies behind a list is handed out", r)
		}
	}
	before.clients = slices.Clone(before.clients)
	before.bad = slices.Clone(before.bad)
	before.entries = slices.Clone(before.entries)
	got.clients[0], got.bad[0], got.entries[0] = api.Window{}, 77, api.Entry{}
	two := l.Entries(9, 2)
	_ = append(two, api.Entry{Slot: 77})
	if !sameFace(faceOf(l), before) {
		t.Errorf("%+v", faceOf(l))
	}
}

// Rule 1.

func TestNoCallMadeIt(t *testing.T) {
	for name, l := range map[string]*Ledger{"nil": nil, "plain": {}} {
		for _, x := range []api.Entry{{}, at(1, asks(0, 1)), at(-1, batch.None())} {
			if out, err := l.Put(x); err != api.ErrNil || len(out) != 0 {
				t.Error(name, int(err), out)
			}
		}
		if got := faceOf(l); !sameFace(got, face{}) {
			t.Errorf("%s: %+v", name, got)
		}
	}
}
