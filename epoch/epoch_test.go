package epoch

import (
	"math"
	"slices"
	"testing"

	"raddle/api"
	"raddle/leaders"
	"raddle/request"
)

// four is a config that may be, of four nodes, four buckets and two slots a leader.
func four() api.Config {
	return api.Config{Nodes: 4, Clients: 2, Window: 4, Buckets: 4, Cap: 2, Slots: 2, Requests: 2, Timeout: 12, Penalty: 1, Last: 100}
}

// sized is a config that may be, of so many nodes, buckets and slots.
func sized(nodes, buckets, slots int) api.Config {
	c := four()
	c.Nodes, c.Buckets, c.Slots, c.Last = nodes, buckets, slots, api.MaxEpoch
	return c
}

func made(t *testing.T, c api.Config, number, start int, penal []int) Epoch {
	t.Helper()
	e, err := New(c, number, start, penal)
	if err != api.OK {
		t.Fatalf("New(%+v, %d, %d, %v): %d", c, number, start, penal, int(err))
	}
	return e
}

// chance makes numbers below n without a rule that is seen, the same in each run.
func chance(seed uint64) func(n int) int {
	return func(n int) int {
		seed = seed*6364136223846793005 + 1442695040888963407
		return int(seed>>33) % n
	}
}

// many are epochs that may be, of all numbers of nodes, with whatever leaders, the first and the last ones among them.
func many(t *testing.T) []Epoch {
	t.Helper()
	below := chance(29)
	var out []Epoch
	for i := range 250 {
		nodes := 4 + 3*below(21)
		c := sized(nodes, 1+below(nodes), 1+below(4))
		e := Epoch{Config: c, Number: 1 + below(api.MaxEpoch)}
		for node := range nodes {
			if below(1+i%4) == 0 {
				e.Leaders = append(e.Leaders, node)
			}
		}
		if len(e.Leaders) == 0 {
			e.Leaders = []int{below(nodes)}
		}
		last := api.MaxNum - len(e.Leaders)*c.Slots
		e.Start = []int{1, 1 + below(1000), last, last - below(1000)}[below(4)]
		if !Good(e) {
			t.Fatalf("%+v may not be", e)
		}
		out = append(out, e)
	}
	return out
}

// with is a copy of a good epoch in which something is otherwise.
func with(change func(e *Epoch)) Epoch {
	e := Epoch{Config: four(), Number: 3, Start: 9, Leaders: []int{0, 1, 2, 3}}
	change(&e)
	return e
}

// never are epochs that may not be.
func never() map[string]Epoch {
	out := map[string]Epoch{
		"zero":           {},
		"Leaders alone":  {Leaders: []int{0, 1, 2, 3}},
		"no Config":      with(func(e *Epoch) { e.Config = api.Config{} }),
		"Nodes 5":        with(func(e *Epoch) { e.Config.Nodes = 5 }),
		"Slots 0":        with(func(e *Epoch) { e.Config.Slots = 0 }),
		"Slots 5":        with(func(e *Epoch) { e.Config.Slots = 5 }),
		"Slots least":    with(func(e *Epoch) { e.Config.Slots = math.MinInt }),
		"Slots greatest": with(func(e *Epoch) { e.Config.Slots = math.MaxInt }),
		"Last 2":         with(func(e *Epoch) { e.Config.Last = 2 }),
		"Number 0":       with(func(e *Epoch) { e.Number = 0 }),
		"Number -1":      with(func(e *Epoch) { e.Number = -1 }),
		"Number 101":     with(func(e *Epoch) { e.Number = 101 }),
		"Number least":   with(func(e *Epoch) { e.Number = math.MinInt }),
		"Number most":    with(func(e *Epoch) { e.Number = math.MaxInt }),
		"Start 0":        with(func(e *Epoch) { e.Start = 0 }),
		"Start -1":       with(func(e *Epoch) { e.Start = -1 }),
		"Start beyond":   with(func(e *Epoch) { e.Start = api.MaxNum - 7 }),
		"Start MaxNum":   with(func(e *Epoch) { e.Start = api.MaxNum }),
		"Start least":    with(func(e *Epoch) { e.Start = math.MinInt }),
		"Start greatest": with(func(e *Epoch) { e.Start = math.MaxInt }),
		"one beyond":     with(func(e *Epoch) { e.Leaders, e.Start = []int{2}, api.MaxNum-1 }),
	}
	for name, l := range map[string][]int{
		"nil": nil, "empty": {}, "falling": {3, 2, 1, 0}, "falling at the end": {0, 1, 3, 2}, "twice at once": {0, 0},
		"twice at the end": {0, 1, 3, 3}, "twice, apart": {0, 1, 0}, "node -1": {-1}, "node -1 in front": {-1, 0, 1}, "node 4": {4},
		"node 4 at the end": {0, 1, 4}, "the least int": {math.MinInt, 0}, "the greatest int": {0, math.MaxInt}, "long": slices.Repeat([]int{1}, 1<<20),
	} {
		out["Leaders "+name] = with(func(e *Epoch) { e.Leaders = l })
	}
	return out
}

// P12.1

func TestNew(t *testing.T) {
	c := four()
	e, err := New(c, 3, 9, nil)
	if err != api.OK || e.Config != c || e.Number != 3 || e.Start != 9 || !slices.Equal(e.Leaders, []int{0, 1, 2, 3}) {
		t.Error(e, int(err))
	}
	for _, penal := range [][]int{nil, {}, {4}, {0, 4}, {4, 4, 4}, {4, 4, 3, 3}, {3, 3, 3, 3, 9}, {-1, math.MaxInt, math.MinInt}} {
		e := made(t, c, 3, 9, penal)
		if !slices.Equal(e.Leaders, leaders.List(c, 3, penal)) || !Good(e) {
			t.Errorf("penal %v: %v", penal, e)
		}
	}
	if e := made(t, c, 3, 9, []int{0, 4}); !slices.Equal(e.Leaders, []int{0, 2, 3}) {
		t.Error(e)
	}
}

func TestNewErrors(t *testing.T) {
	c := four()
	for _, x := range []struct {
		name          string
		c             api.Config
		number, start int
		want          api.Errno
	}{
		{"number 1", c, 1, 1, api.OK},
		{"number Last", c, 100, 1, api.OK},
		{"number Last + 1", c, 101, 1, api.ErrEnd},
		{"number MaxEpoch + 1", sized(4, 4, 2), api.MaxEpoch + 1, 1, api.ErrEnd},
		{"number MaxEpoch", sized(4, 4, 2), api.MaxEpoch, 1, api.OK},
		{"the greatest number", c, math.MaxInt, 1, api.ErrEnd},
		{"number 0", c, 0, 1, api.ErrEpoch},
		{"number -1", c, -1, 1, api.ErrEpoch},
		{"the least number", c, math.MinInt, 1, api.ErrEpoch},
		{"start 0", c, 1, 0, api.ErrEpoch},
		{"start -1", c, 1, -1, api.ErrEpoch},
		{"the least start", c, 1, math.MinInt, api.ErrEpoch},
		{"the greatest start that may be", c, 1, api.MaxNum - 8, api.OK},
		{"one above it", c, 1, api.MaxNum - 7, api.ErrEpoch},
		{"the greatest start", c, 1, math.MaxInt, api.ErrEpoch},
		{"no config", api.Config{}, 1, 1, api.ErrConfig},
		{"no config, number, start", api.Config{}, 0, 0, api.ErrConfig},
		{"no config, number beyond Last", api.Config{}, 1, 0, api.ErrConfig},
		{"no config, the greatest number", api.Config{Nodes: 4}, math.MaxInt, -1, api.ErrConfig},
		{"number beyond, start 0", c, 101, 0, api.ErrEnd},
		{"number beyond, start beyond", c, 101, api.MaxNum, api.ErrEnd},
		{"number 0, start 0", c, 0, 0, api.ErrEpoch},
	} {
		e, err := New(x.c, x.number, x.start, nil)
		if err != x.want {
			t.Errorf("%s: %d, not %d", x.name, int(err), int(x.want))
		}
		if err != api.OK && !Same(e, Epoch{}) {
			t.Errorf("%s: %v beside an error", x.name, e)
		}
		if err == api.OK && (e.Number != x.number || e.Start != x.start || !Good(e)) {
			t.Errorf("%s: %v", x.name, e)
		}
	}
}

func TestNewStartOfFewerLeaders(t *testing.T) {
	for slots := 1; slots <= 4; slots++ {
		for left := 2; left <= 4; left++ {
			penal := slices.Repeat([]int{9}, 4-left)
			most := api.MaxNum - left*slots
			if e := made(t, sized(4, 1, slots), 5, most, penal); End(e) != api.MaxNum {
				t.Error(slots, left, End(e))
			}
			if _, err := New(sized(4, 1, slots), 5, most+1, penal); err != api.ErrEpoch {
				t.Error(slots, left, int(err))
			}
		}
	}
}

func TestGood(t *testing.T) {
	for name, e := range never() {
		if Good(e) {
			t.Errorf("%s: may be", name)
		}
	}
	for name, e := range map[string]Epoch{
		"all":                with(func(e *Epoch) {}),
		"one leader":         with(func(e *Epoch) { e.Leaders = []int{3} }),
		"two":                with(func(e *Epoch) { e.Leaders = []int{0, 3} }),
		"number 1":           with(func(e *Epoch) { e.Number = 1 }),
		"number Last":        with(func(e *Epoch) { e.Number = 100 }),
		"start 1":            with(func(e *Epoch) { e.Start = 1 }),
		"the greatest start": with(func(e *Epoch) { e.Start = api.MaxNum - 8 }),
		"of one leader":      with(func(e *Epoch) { e.Leaders, e.Start = []int{2}, api.MaxNum-2 }),
	} {
		if !Good(e) {
			t.Errorf("%s: may not be", name)
		}
	}
}

func TestSame(t *testing.T) {
	e := with(func(e *Epoch) {})
	if !Same(e, e) || !Same(e, with(func(e *Epoch) {})) || !Same(Epoch{}, Epoch{}) {
		t.Error("an epoch is not as it is")
	}
	for name, other := range map[string]Epoch{
		"Nodes":         with(func(e *Epoch) { e.Config.Nodes++ }),
		"Clients":       with(func(e *Epoch) { e.Config.Clients++ }),
		"Window":        with(func(e *Epoch) { e.Config.Window++ }),
		"Buckets":       with(func(e *Epoch) { e.Config.Buckets++ }),
		"Cap":           with(func(e *Epoch) { e.Config.Cap++ }),
		"Slots":         with(func(e *Epoch) { e.Config.Slots++ }),
		"Requests":      with(func(e *Epoch) { e.Config.Requests++ }),
		"Timeout":       with(func(e *Epoch) { e.Config.Timeout++ }),
		"Penalty":       with(func(e *Epoch) { e.Config.Penalty++ }),
		"Last":          with(func(e *Epoch) { e.Config.Last++ }),
		"Number":        with(func(e *Epoch) { e.Number++ }),
		"Start":         with(func(e *Epoch) { e.Start++ }),
		"fewer Leaders": with(func(e *Epoch) { e.Leaders = e.Leaders[:3] }),
		"more Leaders":  with(func(e *Epoch) { e.Leaders = append(e.Leaders, 4) }),
		"another order": with(func(e *Epoch) { e.Leaders = []int{0, 1, 3, 2} }),
		"another one":   with(func(e *Epoch) { e.Leaders = []int{0, 1, 2, 4} }),
		"no Leaders":    with(func(e *Epoch) { e.Leaders = nil }),
		"zero":          {},
	} {
		if Same(e, other) || Same(other, e) {
			t.Errorf("with %s it is the same", name)
		}
		if !Same(other, other) {
			t.Errorf("with %s: it is not as it is, though no call looks whether it may be", name)
		}
	}
	none, empty := with(func(e *Epoch) { e.Leaders = nil }), with(func(e *Epoch) { e.Leaders = []int{} })
	if !Same(none, empty) || !Same(empty, none) {
		t.Error("Leaders nil and empty are unlike")
	}
	// What lies behind a list's length is none of it.
	short := with(func(e *Epoch) { e.Leaders = []int{0, 1, 7, 8}[:2] })
	if !Same(short, with(func(e *Epoch) { e.Leaders = []int{0, 1} })) {
		t.Error("spare room is looked at")
	}
}

func TestOfEpochsThatMayNotBe(t *testing.T) {
	for name, e := range never() {
		if end := End(e); end != 0 {
			t.Errorf("%s: End %d", name, end)
		}
		for _, x := range []int{math.MinInt, -1, 0, 1, 2, 3, 9, 10, api.MaxNum, math.MaxInt} {
			if o := Owner(e, x); o != -1 {
				t.Errorf("%s: Owner of %d is %d", name, x, o)
			}
			if o := Owner(e, e.Start); o != -1 {
				t.Errorf("%s: Owner of Start is %d", name, o)
			}
			if l := Slots(e, x); len(l) != 0 {
				t.Errorf("%s: Slots of %d are %v", name, x, l)
			}
			if p := Primary(e, x, 0); p != -1 {
				t.Errorf("%s: Primary of %d is %d", name, x, p)
			}
			if b := Bucket(e, 1, x); b != -1 {
				t.Errorf("%s: Bucket of 1, %d is %d's", name, x, b)
			}
		}
	}
}

// P12.2

func TestExample(t *testing.T) {
	e := made(t, four(), 3, 9, nil)
	if End(e) != 17 || Owner(e, 10) != 1 || !slices.Equal(Slots(e, 1), []int{10, 14}) || Primary(e, 3, 2) != 1 {
		t.Error(End(e), Owner(e, 10), Slots(e, 1), Primary(e, 3, 2))
	}
}

func TestOwner(t *testing.T) {
	e := with(func(e *Epoch) { e.Leaders = []int{0, 2, 3} })
	for slot, want := range map[int]int{
		math.MinInt: -1, -1: -1, 0: -1, 1: -1, 8: -1, 9: 0, 10: 2, 11: 3, 12: 0, 13: 2, 14: 3, 15: -1, 16: -1, api.MaxNum: -1, math.MaxInt: -1,
	} {
		if o := Owner(e, slot); o != want {
			t.Errorf("slot %d: %d, not %d", slot, o, want)
		}
	}
}

func TestSlots(t *testing.T) {
	e := with(func(e *Epoch) { e.Leaders = []int{0, 2, 3} })
	for leader, want := range map[int][]int{
		0: {9, 12}, 2: {10, 13}, 3: {11, 14}, 1: nil, 4: nil, -1: nil, 9: nil, math.MinInt: nil, math.MaxInt: nil,
	} {
		if l := Slots(e, leader); !slices.Equal(l, want) {
			t.Errorf("leader %d: %v, not %v", leader, l, want)
		}
	}
	alone := with(func(e *Epoch) { e.Leaders, e.Config.Slots = []int{3}, 4 })
	if l := Slots(alone, 3); !slices.Equal(l, []int{9, 10, 11, 12}) || End(alone) != 13 {
		t.Error(l, End(alone))
	}
	high := with(func(e *Epoch) { e.Config.Slots, e.Start = 1, api.MaxNum-4 })
	if l := Slots(high, 3); !slices.Equal(l, []int{api.MaxNum - 1}) || End(high) != api.MaxNum || Owner(high, api.MaxNum) != -1 {
		t.Error(l, End(high))
	}
}

func TestPrimary(t *testing.T) {
	e := with(func(e *Epoch) { e.Leaders = []int{0, 2, 3} })
	for _, x := range []struct{ leader, view, want int }{
		{0, 0, 0}, {2, 0, 2}, {3, 0, 3}, {3, 1, 0}, {3, 2, 1}, {2, 3, 1}, {0, 1, 1}, {0, 4, 0}, {2, 5, 3},
		{3, api.MaxNum, 3}, {2, api.MaxNum - 1, 1}, {3, api.MaxNum + 1, -1}, {3, -1, -1}, {3, math.MinInt, -1}, {3, math.MaxInt, -1},
		{1, 0, -1}, {4, 0, -1}, {-1, 0, -1}, {-1, 1, -1}, {math.MinInt, 0, -1}, {math.MaxInt, 1, -1},
	} {
		if p := Primary(e, x.leader, x.view); p != x.want {
			t.Errorf("leader %d, view %d: %d, not %d", x.leader, x.view, p, x.want)
		}
	}
	seven := Epoch{Config: sized(7, 3, 1), Number: 1, Start: 1, Leaders: []int{6}}
	if p := Primary(seven, 6, api.MaxNum); p != (6+api.MaxNum)%7 {
		t.Error(p)
	}
}

func TestBucket(t *testing.T) {
	for _, e := range many(t)[:60] {
		for _, x := range [][2]int{{0, 0}, {0, 1}, {1, 0}, {7, 300}, {3, api.MaxNum}, {0, math.MaxInt}, {math.MaxInt, 0}, {math.MaxInt, math.MaxInt}} {
			want := leaders.Owner(e.Config, e.Number, e.Leaders, request.Bucket(x[0], x[1], e.Config.Buckets))
			if b := Bucket(e, x[0], x[1]); b != want || !slices.Contains(e.Leaders, b) {
				t.Errorf("%v in %+v: %d, not %d", x, e, b, want)
			}
		}
		for _, x := range [][2]int{{-1, 1}, {1, -1}, {-1, -1}, {math.MinInt, 0}, {0, math.MinInt}, {-1, math.MaxInt}, {math.MaxInt, -1}} {
			if b := Bucket(e, x[0], x[1]); b != -1 {
				t.Errorf("%v: %d", x, b)
			}
		}
	}
}

func TestBucketTurns(t *testing.T) {
	// Where all lead a bucket goes on by one node an epoch.
	for number := 1; number <= 9; number++ {
		e := made(t, four(), number, 1, nil)
		for num := 1; num <= 20; num++ {
			if b, want := Bucket(e, 1, num), (request.Bucket(1, num, 4)+number)%4; b != want {
				t.Errorf("number %d in epoch %d: %d, not %d", num, number, b, want)
			}
		}
	}
}

// P12.3

func TestParts(t *testing.T) {
	for _, e := range many(t) {
		count := len(e.Leaders) * e.Config.Slots
		if End(e) != e.Start+count || End(e) > api.MaxNum {
			t.Fatalf("End of %+v: %d", e, End(e))
		}
		whose := map[int]int{}
		for node := -1; node <= e.Config.Nodes; node++ {
			own := Slots(e, node)
			if !slices.Contains(e.Leaders, node) {
				if len(own) != 0 {
					t.Fatalf("%d, who does not lead, has %v", node, own)
				}
				continue
			}
			if len(own) != e.Config.Slots || !slices.IsSorted(own) {
				t.Fatalf("%d has %v", node, own)
			}
			for _, slot := range own {
				if other, there := whose[slot]; there {
					t.Fatalf("slot %d is %d's and %d's", slot, other, node)
				}
				whose[slot] = node
			}
		}
		if len(whose) != count {
			t.Fatalf("%d slots, not %d", len(whose), count)
		}
		for i := range count {
			slot := e.Start + i
			node, there := whose[slot]
			if o := Owner(e, slot); !there || o != node || o != e.Leaders[i%len(e.Leaders)] {
				t.Fatalf("slot %d is %d's, and stands among those of %d", slot, o, node)
			}
		}
		if Owner(e, e.Start-1) != -1 || Owner(e, End(e)) != -1 {
			t.Fatalf("slots beside those of %+v have owners", e)
		}
	}
}

// P12.4

func TestTurn(t *testing.T) {
	below := chance(31)
	for i, e := range many(t) {
		n := e.Config.Nodes
		leader := e.Leaders[below(len(e.Leaders))]
		first := []int{0, below(1000), api.MaxNum - n + 1}[i%3]
		times := make([]int, n)
		for view := first; view < first+n; view++ {
			p := Primary(e, leader, view)
			if p < 0 || p >= n {
				t.Fatalf("view %d of %d: %d", view, leader, p)
			}
			times[p]++
		}
		if slices.Max(times) != 1 || slices.Min(times) != 1 {
			t.Fatalf("from view %d on: %v", first, times)
		}
		if Primary(e, leader, 0) != leader {
			t.Fatalf("view 0 is not %d's own", leader)
		}
	}
}

// Rules 4 and 8: what is handed in stays, its spare room too, and what is told is new memory.

func TestArgumentsStay(t *testing.T) {
	penal := []int{4, 0, 0, 0, 77}
	list := []int{0, 2, 3, 1, 78}
	e := with(func(e *Epoch) { e.Leaders = list[:3] })
	for range 3 {
		f := made(t, four(), 3, 9, penal[:1])
		g := made(t, four(), 3, 9, penal[:1])
		for _, l := range [][]int{f.Leaders, Slots(e, 2)} {
			whole := l[:cap(l)]
			for i := range whole {
				whole[i] = -9
			}
		}
		if !slices.Equal(g.Leaders, []int{1, 2, 3}) || !slices.Equal(Slots(e, 2), []int{10, 13}) {
			t.Fatal("two answers share memory", g.Leaders, Slots(e, 2))
		}
		if !Good(e) || End(e) != 15 || Owner(e, 14) != 3 || Primary(e, 1, 0) != -1 || Bucket(e, 1, 1) < 0 || !Same(e, e) {
			t.Fatal("another answer than before")
		}
		if !slices.Equal(penal, []int{4, 0, 0, 0, 77}) || !slices.Equal(list, []int{0, 2, 3, 1, 78}) {
			t.Fatal("what was handed in is now", penal, list)
		}
	}
}
