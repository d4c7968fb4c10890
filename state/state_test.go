package state

import (
	"fmt"
	"math"
	"reflect"
	"slices"
	"testing"

	"raddle/api"
	"raddle/batch"
	"raddle/epoch"
	"raddle/leaders"
	"raddle/ledger"
	"raddle/window"
)

// config is one that may be, of four nodes with one slot a leader and two clients.
func config() api.Config {
	return api.Config{Nodes: 4, Clients: 2, Window: 4, Buckets: 4, Cap: 2, Slots: 1, Requests: 2, Timeout: 12, Penalty: 2, Last: 9}
}

// state is one of that config that may be, all of whose numbers are unlike.
func state() api.State {
	return api.State{
		Epoch: 3, Next: 300, Count: 70000, Chain: api.Digest{1, 2, 31: 9},
		Clients: []api.Window{{Base: 7, Bits: 1<<63 | 6}, {Base: 8}},
		Penal:   []int{0, 2, 4, 1},
	}
}

// with is that state with something otherwise.
func with(change func(s *api.State)) api.State {
	s := state()
	change(&s)
	return s
}

// chance makes numbers below n without a rule that is seen, the same in each run.
func chance(seed uint64) func(n int) int {
	return func(n int) int {
		seed = seed*6364136223846793005 + 1442695040888963407
		return int(seed>>33) % n
	}
}

// configs are some that may be, the least and the greatest one among them.
func configs(t *testing.T) []api.Config {
	t.Helper()
	least := api.Config{Nodes: 4, Clients: 1, Window: 1, Buckets: 1, Cap: 1, Slots: 1, Requests: 1, Timeout: 12, Last: 1}
	greatest := api.Config{Nodes: 64, Clients: 8, Window: 64, Buckets: 64, Cap: 16, Slots: 4, Requests: 4, Timeout: 64, Penalty: 8, Last: api.MaxEpoch}
	out := []api.Config{config(), least, greatest}
	below := chance(3)
	for range 20 {
		c := config()
		c.Nodes, c.Clients, c.Slots, c.Penalty, c.Last = 4+3*below(21), 1+below(8), 1+below(4), below(9), 1+below(100)
		out = append(out, c)
	}
	for _, c := range out {
		if leaders.Good(c) != api.OK {
			t.Fatalf("%+v may not be", c)
		}
	}
	return out
}

// wrongConfigs are some that may not be.
func wrongConfigs() []api.Config {
	out := []api.Config{{}}
	for _, change := range []func(c *api.Config){
		func(c *api.Config) { c.Nodes = 5 }, func(c *api.Config) { c.Nodes = 67 }, func(c *api.Config) { c.Clients = 0 },
		func(c *api.Config) { c.Clients = 9 }, func(c *api.Config) { c.Slots = 5 }, func(c *api.Config) { c.Penalty = -1 },
		func(c *api.Config) { c.Last = 0 }, func(c *api.Config) { c.Last = math.MaxInt }, func(c *api.Config) { c.Timeout = 11 },
	} {
		c := config()
		change(&c)
		out = append(out, c)
	}
	return out
}

// wrongs are states that may not be of config.
func wrongs() map[string]api.State {
	w := window.New()
	return map[string]api.State{
		"zero":                   {},
		"Epoch 0":                with(func(s *api.State) { s.Epoch = 0 }),
		"Epoch -1":               with(func(s *api.State) { s.Epoch = -1 }),
		"the least Epoch":        with(func(s *api.State) { s.Epoch = math.MinInt }),
		"Epoch Last + 2":         with(func(s *api.State) { s.Epoch = 11 }),
		"the greatest Epoch":     with(func(s *api.State) { s.Epoch = math.MaxInt }),
		"Next 0":                 with(func(s *api.State) { s.Next = 0 }),
		"Next -1":                with(func(s *api.State) { s.Next = -1 }),
		"the least Next":         with(func(s *api.State) { s.Next = math.MinInt }),
		"Next MaxNum + 1":        with(func(s *api.State) { s.Next = api.MaxNum + 1 }),
		"the greatest Next":      with(func(s *api.State) { s.Next = math.MaxInt }),
		"Count -1":               with(func(s *api.State) { s.Count = -1 }),
		"the least Count":        with(func(s *api.State) { s.Count = math.MinInt }),
		"Count MaxNum + 1":       with(func(s *api.State) { s.Count = api.MaxNum + 1 }),
		"the greatest Count":     with(func(s *api.State) { s.Count = math.MaxInt }),
		"no Clients":             with(func(s *api.State) { s.Clients = nil }),
		"a client too few":       with(func(s *api.State) { s.Clients = []api.Window{w} }),
		"a client too many":      with(func(s *api.State) { s.Clients = []api.Window{w, w, w} }),
		"the first window zero":  with(func(s *api.State) { s.Clients[0] = api.Window{} }),
		"the last window's bit":  with(func(s *api.State) { s.Clients[1].Bits = 1 }),
		"the last window beyond": with(func(s *api.State) { s.Clients[1].Base = api.MaxNum + 2 }),
		"no Penal":               with(func(s *api.State) { s.Penal = nil }),
		"a node too few":         with(func(s *api.State) { s.Penal = s.Penal[:3] }),
		"a node too many":        with(func(s *api.State) { s.Penal = append(s.Penal, 0) }),
		"the first Penal -1":     with(func(s *api.State) { s.Penal[0] = -1 }),
		"the last Penal -1":      with(func(s *api.State) { s.Penal[3] = -1 }),
		"the least Penal":        with(func(s *api.State) { s.Penal[1] = math.MinInt }),
		"Penal beyond":           with(func(s *api.State) { s.Penal[3] = api.MaxEpoch + 17 }),
		"the greatest Penal":     with(func(s *api.State) { s.Penal[0] = math.MaxInt }),
	}
}

// done is a state's ledger, filled with batches slot by slot, with empty ones behind these.
func done(t *testing.T, c api.Config, s api.State, batches ...api.Batch) *ledger.Ledger {
	t.Helper()
	l, err := Ledger(c, s)
	if err != api.OK {
		t.Fatalf("Ledger(%+v): %d", s, int(err))
	}
	for !l.Done() {
		var b api.Batch
		if at := l.Next() - s.Next; at < len(batches) {
			b = batches[at]
		}
		if _, err := l.Put(api.Entry{Slot: l.Next(), Batch: b}); err != api.OK {
			t.Fatal(int(err))
		}
	}
	return l
}

func asks(client int, nums ...int) api.Batch {
	var b api.Batch
	for _, num := range nums {
		b.Requests = append(b.Requests, api.Request{Client: client, Num: num})
	}
	return b
}

// P22.1

func TestFirst(t *testing.T) {
	for _, c := range configs(t) {
		s := First(c)
		if s.Epoch != 1 || s.Next != 1 || s.Count != 0 || s.Chain != (api.Digest{}) || len(s.Clients) != c.Clients || len(s.Penal) != c.Nodes {
			t.Fatal(s)
		}
		for _, w := range s.Clients {
			if w != (api.Window{Base: 1}) {
				t.Error(s)
			}
		}
		if slices.Max(s.Penal) != 0 || slices.Min(s.Penal) != 0 {
			t.Error(s)
		}
		if !Good(c, s) || !Same(s, First(c)) {
			t.Error(c, s)
		}
	}
	for _, c := range wrongConfigs() {
		if s := First(c); !Same(s, api.State{}) {
			t.Error(c, s)
		}
	}
	First(config()).Clients[0] = api.Window{}
	First(config()).Penal[0] = 5
	if s := First(config()); s.Clients[0] != window.New() || s.Penal[0] != 0 {
		t.Error("what is told is kept", s)
	}
}

func TestGood(t *testing.T) {
	for name, s := range map[string]api.State{
		"ordinary":     state(),
		"Epoch 1":      with(func(s *api.State) { s.Epoch = 1 }),
		"Epoch Last":   with(func(s *api.State) { s.Epoch = 9 }),
		"Last + 1":     with(func(s *api.State) { s.Epoch = 10 }),
		"Next 1":       with(func(s *api.State) { s.Next = 1 }),
		"Next MaxNum":  with(func(s *api.State) { s.Next = api.MaxNum }),
		"Count 0":      with(func(s *api.State) { s.Count = 0 }),
		"Count MaxNum": with(func(s *api.State) { s.Count = api.MaxNum }),
		"last window":  with(func(s *api.State) { s.Clients[1] = api.Window{Base: api.MaxNum + 1} }),
		"Penal most":   with(func(s *api.State) { s.Penal[0], s.Penal[3] = api.MaxEpoch+16, api.MaxEpoch+16 }),
	} {
		if !Good(config(), s) {
			t.Errorf("%s: may be", name)
		}
		for _, c := range wrongConfigs() {
			if Good(c, s) {
				t.Errorf("%s: may not be of %+v", name, c)
			}
		}
	}
	for name, s := range wrongs() {
		if Good(config(), s) {
			t.Errorf("%s: may not be", name)
		}
	}
	c := config()
	c.Last = api.MaxEpoch
	if !Good(c, with(func(s *api.State) { s.Epoch = api.MaxEpoch + 1 })) || Good(c, with(func(s *api.State) { s.Epoch = api.MaxEpoch + 2 })) {
		t.Error("the last epoch of all")
	}
}

func TestSame(t *testing.T) {
	if !Same(state(), state()) || !Same(api.State{}, api.State{}) {
		t.Error("the same are not")
	}
	if !Same(api.State{}, api.State{Clients: []api.Window{}, Penal: []int{}}) {
		t.Error("nil and empty lists are one")
	}
	for name, s := range map[string]api.State{
		"Epoch":        with(func(s *api.State) { s.Epoch++ }),
		"Next":         with(func(s *api.State) { s.Next++ }),
		"Count":        with(func(s *api.State) { s.Count++ }),
		"Chain":        with(func(s *api.State) { s.Chain[0]++ }),
		"Chain's end":  with(func(s *api.State) { s.Chain[31]++ }),
		"Base":         with(func(s *api.State) { s.Clients[0].Base++ }),
		"Bits":         with(func(s *api.State) { s.Clients[1].Bits++ }),
		"Clients gone": with(func(s *api.State) { s.Clients = s.Clients[:1] }),
		"turned":       with(func(s *api.State) { slices.Reverse(s.Clients) }),
		"Penal":        with(func(s *api.State) { s.Penal[0]++ }),
		"Penal's end":  with(func(s *api.State) { s.Penal[3]++ }),
		"Penal more":   with(func(s *api.State) { s.Penal = append(s.Penal, 0) }),
		"nothing":      {},
	} {
		if Same(state(), s) || Same(s, state()) || !Same(s, s) {
			t.Error(name)
		}
	}
}

// P22.2

func TestEpoch(t *testing.T) {
	e, err := Epoch(config(), state())
	if err != api.OK || !epoch.Same(e, epoch.Epoch{Config: config(), Number: 3, Start: 300, Leaders: []int{0, 1, 3}}) {
		t.Error(e, int(err))
	}
	for _, c := range configs(t) {
		e, err := Epoch(c, First(c))
		want, _ := epoch.New(c, 1, 1, nil)
		if err != api.OK || !epoch.Same(e, want) {
			t.Error(c, e, int(err))
		}
	}
}

// ends are states that may be, and the errors that their epochs have.
func ends() map[string]struct {
	s    api.State
	want api.Errno
} {
	type end = struct {
		s    api.State
		want api.Errno
	}
	return map[string]end{
		"Last":                {with(func(s *api.State) { s.Epoch = 9 }), api.OK},
		"Last + 1":            {with(func(s *api.State) { s.Epoch = 10 }), api.ErrEnd},
		"Last + 1, no room":   {with(func(s *api.State) { s.Epoch, s.Next = 10, api.MaxNum }), api.ErrEnd},
		"no room":             {with(func(s *api.State) { s.Next = api.MaxNum }), api.ErrEpoch},
		"room for one less":   {with(func(s *api.State) { s.Next = api.MaxNum - 2 }), api.ErrEpoch},
		"just room for three": {with(func(s *api.State) { s.Next = api.MaxNum - 3 }), api.OK},
	}
}

func TestEpochErrors(t *testing.T) {
	for name, s := range wrongs() {
		if e, err := Epoch(config(), s); err != api.ErrState || !epoch.Same(e, epoch.Epoch{}) {
			t.Error(name, e, int(err))
		}
	}
	for _, c := range wrongConfigs() {
		if e, err := Epoch(c, state()); err != api.ErrState || !epoch.Same(e, epoch.Epoch{}) {
			t.Error(c, e, int(err))
		}
	}
	for name, x := range ends() {
		e, err := Epoch(config(), x.s)
		if err != x.want || (err == api.OK) != epoch.Good(e) {
			t.Error(name, e, int(err))
		}
	}
}

func TestLedger(t *testing.T) {
	s := state()
	l, err := Ledger(config(), s)
	if err != api.OK || l.Next() != 300 || l.Count() != 70000 || l.Chain() != s.Chain || !slices.Equal(l.Clients(), s.Clients) || l.Len() != 0 || l.Done() {
		t.Error(l, int(err))
	}
	// Three lead, so the slots are 300 to 302.
	if _, err := l.Put(api.Entry{Slot: 303}); err != api.ErrSlot {
		t.Error(int(err))
	}
	if _, err := l.Put(api.Entry{Slot: 302}); err != api.OK {
		t.Error(int(err))
	}
	for name, s := range wrongs() {
		if l, err := Ledger(config(), s); err != api.ErrState || l != nil {
			t.Error(name, int(err))
		}
	}
	for _, c := range wrongConfigs() {
		if l, err := Ledger(c, state()); err != api.ErrState || l != nil {
			t.Error(c, int(err))
		}
	}
	for name, x := range ends() {
		if l, err := Ledger(config(), x.s); err != x.want || (err == api.OK) != (l != nil) {
			t.Error(name, int(err))
		}
	}
}

func TestAfter(t *testing.T) {
	s := state()
	// Of slots 300 to 302, which are 0's, 1's and 3's, the second one is nothing.
	l := done(t, config(), s, asks(0, 7, 10), batch.None(), asks(1, 9))
	got, err := After(config(), s, l)
	want := api.State{
		Epoch: 4, Next: 303, Count: 70003, Chain: l.Chain(),
		Clients: []api.Window{{Base: 11, Bits: 1 << 59}, {Base: 8, Bits: 2}},
		Penal:   []int{0, 6, 4, 1},
	}
	if err != api.OK || !Same(got, want) || !Same(s, state()) {
		t.Error(got, int(err))
	}
	got.Clients[0], got.Penal[0] = api.Window{}, 77
	if again, _ := After(config(), s, l); !Same(again, want) || !Same(s, state()) {
		t.Error("what is told is kept", again)
	}
}

func TestAfterErrors(t *testing.T) {
	s := state()
	full := done(t, config(), s)
	half, _ := Ledger(config(), s)
	half.Put(api.Entry{Slot: 301})
	half.Put(api.Entry{Slot: 302})
	empty, _ := Ledger(config(), s)
	other := done(t, config(), with(func(s *api.State) { s.Next = 299 }))
	twice := config()
	twice.Slots = 2
	longer, _ := Ledger(twice, s)
	for longer.Next() < 303 {
		longer.Put(api.Entry{Slot: longer.Next()})
	}
	more := done(t, config(), with(func(s *api.State) { s.Count = api.MaxNum }), asks(0, 7))
	most := done(t, config(), with(func(s *api.State) { s.Count = api.MaxNum - 1 }), asks(0, 7))
	otherMore := done(t, config(), with(func(s *api.State) { s.Next, s.Count = 299, api.MaxNum }), asks(0, 7))
	for _, x := range []struct {
		name string
		s    api.State
		l    *ledger.Ledger
		want api.Errno
	}{
		{"all is well", s, full, api.OK},
		{"MaxNum were told", s, most, api.OK},
		{"no ledger", s, nil, api.ErrSlot},
		{"a plain one", s, &ledger.Ledger{}, api.ErrSlot},
		{"an empty one", s, empty, api.ErrSlot},
		{"the first slot is missing", s, half, api.ErrSlot},
		{"another end", s, other, api.ErrSlot},
		{"a longer one's middle", s, longer, api.ErrSlot},
		{"another end, too much told", s, otherMore, api.ErrSlot},
		{"too much told", s, more, api.ErrState},
		{"behind the last epoch", with(func(s *api.State) { s.Epoch = 10 }), full, api.ErrEnd},
		{"behind the last epoch, no ledger", with(func(s *api.State) { s.Epoch = 10 }), nil, api.ErrEnd},
		{"no room", with(func(s *api.State) { s.Next = api.MaxNum }), more, api.ErrEpoch},
	} {
		got, err := After(config(), x.s, x.l)
		if err != x.want || err != api.OK && !Same(got, api.State{}) || err == api.OK && !Good(config(), got) {
			t.Errorf("%s: %d, not %d; %v", x.name, int(err), int(x.want), got)
		}
	}
	for name, s := range wrongs() {
		for _, l := range []*ledger.Ledger{nil, full, more} {
			if got, err := After(config(), s, l); err != api.ErrState || !Same(got, api.State{}) {
				t.Error(name, int(err))
			}
		}
	}
	for _, c := range wrongConfigs() {
		if got, err := After(c, s, full); err != api.ErrState || !Same(got, api.State{}) {
			t.Error(c, int(err))
		}
	}
}

// P22.6: from epoch to epoch, up to the last one, whatever was decided.
func TestOn(t *testing.T) {
	below := chance(8)
	for _, c := range configs(t) {
		if c.Last > 100 {
			c.Last = 5
		}
		s := First(c)
		for s.Epoch <= c.Last {
			var batches []api.Batch
			for range c.Nodes * c.Slots {
				batches = append(batches, anyBatch(below, c.Clients, s.Epoch))
			}
			l := done(t, c, s, batches...)
			next, err := After(c, s, l)
			if err != api.OK || !Good(c, next) || next.Epoch != s.Epoch+1 || next.Next != l.Next() || next.Count != l.Count() || next.Chain != l.Chain() {
				t.Fatalf("%+v: %+v, %d", c, next, int(err))
			}
			if !slices.Equal(next.Clients, l.Clients()) || !slices.Equal(next.Penal, leaders.Penalize(c, s.Epoch, s.Penal, l.Bad())) {
				t.Fatalf("%+v: %+v", c, next)
			}
			if back, err := Parse(c, Bytes(next)); err != api.OK || !Same(back, next) {
				t.Fatalf("%+v: %+v, %d", next, back, int(err))
			}
			s = next
		}
		if _, err := Ledger(c, s); err != api.ErrEnd {
			t.Error(int(err))
		}
	}
}

func anyBatch(below func(int) int, clients, near int) api.Batch {
	if below(5) == 0 {
		return batch.None()
	}
	return asks(below(clients), below(20)+near, below(20)+near)
}

// P22.6 at the ends of what may be.
func TestOnAtTheEnds(t *testing.T) {
	c := config()
	c.Last, c.Penalty = api.MaxEpoch, api.MaxPenalty
	s := with(func(s *api.State) {
		s.Epoch, s.Next, s.Count = api.MaxEpoch, api.MaxNum-4, api.MaxNum-1
		s.Clients[0] = api.Window{Base: api.MaxNum}
		s.Penal = []int{api.MaxEpoch, 0, 0, 0}
	})
	got, err := After(c, s, done(t, c, s, batch.None(), batch.None(), asks(0, api.MaxNum), batch.None()))
	if err != api.OK || !Good(c, got) {
		t.Fatal(got, int(err))
	}
	const most = api.MaxEpoch + 9
	if got.Epoch != api.MaxEpoch+1 || got.Next != api.MaxNum || got.Count != api.MaxNum || got.Clients[0].Base != api.MaxNum+1 || !slices.Equal(got.Penal, []int{most, most, 0, most}) {
		t.Error(got)
	}
	if back, err := Parse(c, Bytes(got)); err != api.OK || !Same(back, got) {
		t.Error(back, int(err))
	}
}

// By its words the document takes a done ledger with that end as it is, though it be another state's.
func TestAfterTakesTheLedgersOwn(t *testing.T) {
	s := state()
	l := done(t, config(), with(func(s *api.State) { s.Count, s.Chain = 5, api.Digest{7} }), asks(1, 8))
	got, err := After(config(), s, l)
	if err != api.OK || got.Count != 6 || got.Chain != l.Chain() || !reflect.DeepEqual(got.Clients, l.Clients()) {
		t.Error(fmt.Sprint(got), int(err))
	}
}
