package pool

import (
	"math"
	"slices"
	"strconv"
	"testing"

	"raddle/api"
	"raddle/request"
	"raddle/window"
)

// pool makes a pool that must come about.
func pool(t *testing.T, buckets, room int) *Pool {
	t.Helper()
	p, err := New(buckets, room)
	if p == nil || err != api.OK {
		t.Fatalf("New(%d, %d): %d", buckets, room, int(err))
	}
	return p
}

// add lets requests wait that must not be refused.
func add(t *testing.T, p *Pool, l ...api.Request) {
	t.Helper()
	for _, r := range l {
		if err := p.Add(r); err != api.OK {
			t.Fatalf("Add(%v): %d", r, int(err))
		}
	}
}

// asked is a request with data and a tag of its own, so that one is told from another.
func asked(client, num int) api.Request {
	return api.Request{Client: client, Num: num, Data: strconv.Itoa(client) + "/" + strconv.Itoa(num), Tag: api.Tag{byte(client), byte(num)}}
}

// of are a client's requests that fall to a bucket, the lowest numbers first.
func of(client, bucket, buckets, many int) []api.Request {
	var out []api.Request
	for num := 1; len(out) < many; num++ {
		if request.Bucket(client, num, buckets) == bucket {
			out = append(out, asked(client, num))
		}
	}
	return out
}

// looks is all that a pool tells of itself.
type looks struct {
	len int
	in  [][]api.Request
}

func look(p *Pool) looks {
	out := looks{len: p.Len()}
	for b := -1; b <= api.MaxNodes; b++ {
		out.in = append(out.in, slices.Clone(p.In(b)))
	}
	return out
}

func (l looks) same(m looks) bool {
	return l.len == m.len && slices.EqualFunc(l.in, m.in, slices.Equal[[]api.Request])
}

// The chapter's example.

func TestExample(t *testing.T) {
	p := pool(t, 1, 2)
	add(t, p, asked(0, 1), asked(1, 1))
	if err := p.Add(asked(0, 2)); err != api.ErrFull {
		t.Error(int(err))
	}
	if l := p.Pick([]int{0}, 1, nil); !slices.Equal(l, []api.Request{asked(0, 1)}) {
		t.Error(l)
	}
}

// P10.1

func TestNew(t *testing.T) {
	for _, buckets := range []int{1, 2, 63, 64} {
		for _, room := range []int{1, 2, 15, 16} {
			if p := pool(t, buckets, room); p.Len() != 0 {
				t.Error(buckets, room, p.Len())
			}
		}
	}
	wrong := []int{math.MinInt, -1, 0, math.MaxInt}
	for _, x := range append(wrong, api.MaxNodes+1) {
		for _, room := range append(wrong, 1, api.MaxCap) {
			if p, err := New(x, room); p != nil || err != api.ErrArg {
				t.Errorf("New(%d, %d): %d", x, room, int(err))
			}
		}
	}
	for _, x := range append(wrong, api.MaxCap+1, api.MaxNodes) {
		for _, buckets := range append(wrong, 1, api.MaxNodes) {
			if p, err := New(buckets, x); p != nil || err != api.ErrArg {
				t.Errorf("New(%d, %d): %d", buckets, x, int(err))
			}
		}
	}
}

func TestAddBuckets(t *testing.T) {
	for _, buckets := range []int{1, 2, 7, 64} {
		p := pool(t, buckets, api.MaxCap)
		want := make([][]api.Request, buckets)
		many := 0
		for num := range 100 {
			for client := range 3 {
				r := asked(client, num)
				b := request.Bucket(client, num, buckets)
				expect := api.OK
				if len(want[b]) == api.MaxCap {
					expect = api.ErrFull
				} else {
					want[b] = append(want[b], r)
					many++
				}
				if err := p.Add(r); err != expect {
					t.Fatalf("Add(%v): %d, not %d", r, int(err), int(expect))
				}
				if p.Has(client, num) != (expect == api.OK) || p.Len() != many {
					t.Fatalf("behind %v: %v, %d", r, p.Has(client, num), p.Len())
				}
			}
		}
		for b := range buckets {
			if !slices.Equal(p.In(b), want[b]) {
				t.Errorf("bucket %d of %d: %v", b, buckets, p.In(b))
			}
		}
	}
}

func TestAddOdd(t *testing.T) {
	p := pool(t, 4, 16)
	// Nothing but the pair is looked at: number 0, clients and numbers beyond all limits, any data.
	add(t, p,
		api.Request{}, asked(0, 1), asked(math.MaxInt, 0), asked(0, math.MaxInt), asked(math.MaxInt, math.MaxInt),
		asked(api.MaxClients, api.MaxNum+1), api.Request{Num: 9, Data: string(make([]byte, 1000))})
	if p.Len() != 7 || !p.Has(0, 0) || !p.Has(math.MaxInt, math.MaxInt) || !p.Has(0, 9) {
		t.Error(p.Len())
	}
}

func TestAddErrors(t *testing.T) {
	p := pool(t, 1, 2)
	add(t, p, asked(0, 1), asked(1, 0))
	before := look(p)
	for _, x := range []struct {
		r    api.Request
		want api.Errno
	}{
		{asked(-1, 1), api.ErrArg}, {asked(1, -1), api.ErrArg}, {asked(-1, -1), api.ErrArg},
		{asked(math.MinInt, 0), api.ErrArg}, {asked(0, math.MinInt), api.ErrArg},
		{asked(0, 1), api.ErrThere}, {asked(1, 0), api.ErrThere},
		{api.Request{Client: 0, Num: 1, Data: "other"}, api.ErrThere}, // the bucket is full, too
		{asked(0, 2), api.ErrFull}, {asked(1, 1), api.ErrFull}, {asked(0, 0), api.ErrFull},
	} {
		if err := p.Add(x.r); err != x.want {
			t.Errorf("Add(%v): %d, not %d", x.r, int(err), int(x.want))
		}
	}
	// P10.6
	if !look(p).same(before) {
		t.Error("what was refused changed something")
	}
}

func TestHas(t *testing.T) {
	p := pool(t, 3, 16)
	add(t, p, asked(1, 2), asked(3, 3))
	for client := -2; client < 6; client++ {
		for num := -2; num < 6; num++ {
			want := client == 1 && num == 2 || client == 3 && num == 3
			if p.Has(client, num) != want {
				t.Errorf("Has(%d, %d): %v", client, num, !want)
			}
		}
	}
	if p.Has(math.MinInt, math.MinInt) || p.Has(math.MaxInt, math.MaxInt) {
		t.Error("ends of an int")
	}
}

func TestInNoBucket(t *testing.T) {
	p := pool(t, 2, 16)
	add(t, p, of(0, 0, 2, 3)...)
	add(t, p, of(0, 1, 2, 3)...)
	for _, b := range []int{math.MinInt, -1, 2, 3, 63, 64, math.MaxInt} {
		if l := p.In(b); len(l) != 0 {
			t.Errorf("In(%d): %v", b, l)
		}
	}
}

func TestInNewMemory(t *testing.T) {
	p := pool(t, 1, 16)
	add(t, p, asked(0, 1), asked(0, 2), asked(0, 3))
	want := look(p)
	l := p.In(0)
	l[0], l[1] = asked(7, 7), asked(8, 8)
	_ = append(l[:1], asked(9, 9))
	if !look(p).same(want) {
		t.Error("the list of In is the pool's own")
	}
	l = p.In(0)
	add(t, p, asked(0, 4))
	p.Sweep([]api.Window{{Base: 3}})
	if !slices.Equal(l, []api.Request{asked(0, 1), asked(0, 2), asked(0, 3)}) {
		t.Error("a list of In changes with the pool", l)
	}
}

// P10.2

// filled is a pool of three buckets with four requests in each, and those in their order.
func filled(t *testing.T) (*Pool, [3][]api.Request) {
	t.Helper()
	p := pool(t, 3, 4)
	var in [3][]api.Request
	for b := range in {
		in[b] = slices.Concat(of(1, b, 3, 2), of(0, b, 3, 2))
	}
	for i := range 4 {
		for b := range in {
			add(t, p, in[b][i])
		}
	}
	return p, in
}

func TestPickOrder(t *testing.T) {
	p, in := filled(t)
	before := look(p)
	for _, x := range []struct {
		buckets []int
		want    []api.Request
	}{
		{nil, nil}, {[]int{}, nil},
		{[]int{0}, in[0]}, {[]int{2}, in[2]},
		{[]int{0, 1, 2}, slices.Concat(in[0], in[1], in[2])},
		{[]int{2, 0, 1}, slices.Concat(in[2], in[0], in[1])},
		{[]int{1, 1, 1}, in[1]},
		{[]int{1, 2, 1, 2, 0, 0, 2}, slices.Concat(in[1], in[2], in[0])},
		{[]int{-1, 3, 64, math.MinInt, math.MaxInt}, nil},
		{[]int{3, 2, -1, 1, 3, 2}, slices.Concat(in[2], in[1])},
	} {
		for most := -1; most <= 14; most++ {
			want := x.want[:max(0, min(most, len(x.want)))]
			if l := p.Pick(x.buckets, most, nil); !slices.Equal(l, want) {
				t.Errorf("Pick(%v, %d): %v, not %v", x.buckets, most, l, want)
			}
		}
		if l := p.Pick(x.buckets, math.MaxInt, nil); !slices.Equal(l, x.want) {
			t.Errorf("Pick(%v, all): %v", x.buckets, l)
		}
		if l := p.Pick(x.buckets, math.MinInt, nil); len(l) != 0 {
			t.Errorf("Pick(%v, none): %v", x.buckets, l)
		}
	}
	if !look(p).same(before) {
		t.Error("what was picked does not wait on")
	}
}

func TestPickBusy(t *testing.T) {
	p, in := filled(t)
	before := look(p)
	other := func(r api.Request) api.Request { return api.Request{Client: r.Client, Num: r.Num, Data: "other"} }
	for _, x := range []struct {
		buckets []int
		most    int
		busy    []api.Batch
		want    []api.Request
	}{
		{[]int{0}, 9, []api.Batch{}, in[0]},
		{[]int{0}, 9, []api.Batch{{}, {Noop: true}}, in[0]},
		{[]int{0}, 9, []api.Batch{{Requests: in[1]}}, in[0]},
		{[]int{0}, 9, []api.Batch{{Requests: in[0]}}, nil},
		{[]int{0, 1}, 9, []api.Batch{{Requests: in[0]}}, in[1]},
		{[]int{0}, 2, []api.Batch{{Requests: in[0][:1]}}, in[0][1:3]},
		{[]int{0}, 2, []api.Batch{{}, {Requests: in[0][:1]}, {Requests: in[0][2:3]}}, []api.Request{in[0][1], in[0][3]}},
		{[]int{0}, 9, []api.Batch{{Requests: []api.Request{other(in[0][1])}}}, []api.Request{in[0][0], in[0][2], in[0][3]}},
		// Both of a pair count: another client's same number, another number of the same client.
		{[]int{0}, 9, []api.Batch{{Requests: []api.Request{asked(7, in[0][0].Num), asked(in[0][0].Client, 7000)}}}, in[0]},
		{[]int{1, 0}, 5, []api.Batch{{Requests: []api.Request{in[1][0], in[0][0], in[1][3]}}}, []api.Request{in[1][1], in[1][2], in[0][1], in[0][2], in[0][3]}},
		{[]int{0}, 9, []api.Batch{{Noop: true, Requests: in[0][1:]}}, in[0][:1]},
		{[]int{0}, 9, []api.Batch{{Requests: []api.Request{asked(-1, -1), asked(math.MinInt, math.MaxInt)}}}, in[0]},
	} {
		if l := p.Pick(x.buckets, x.most, x.busy); !slices.Equal(l, x.want) {
			t.Errorf("Pick(%v, %d, %v): %v, not %v", x.buckets, x.most, x.busy, l, x.want)
		}
	}
	if !look(p).same(before) {
		t.Error("what was picked does not wait on")
	}
}

func TestPickArguments(t *testing.T) {
	p, in := filled(t)
	buckets := []int{2, 2, 9, 0, 77, 77}
	busy := []api.Batch{{Requests: slices.Clone(in[2])[:1]}, {Noop: true}}
	first := slices.Clone(busy[0].Requests[:4])
	l := p.Pick(buckets[:4], 5, busy[:1])
	if !slices.Equal(buckets, []int{2, 2, 9, 0, 77, 77}) {
		t.Error("the list of buckets was changed", buckets)
	}
	if !slices.Equal(busy[0].Requests[:4], first) || len(busy[0].Requests) != 1 || busy[0].Noop || !busy[1].Noop {
		t.Error("the busy batches were changed", busy)
	}
	want := look(p)
	for i := range l {
		l[i] = asked(9, 9)
	}
	_ = append(l, asked(8, 8))
	if !look(p).same(want) {
		t.Error("the list of Pick is the pool's own")
	}
}

// P10.3

func TestSweep(t *testing.T) {
	p := pool(t, 4, 16)
	var all []api.Request
	for num := range 8 {
		for client := range 4 {
			all = append(all, asked(client, num))
		}
	}
	add(t, p, all...)
	clients := []api.Window{{Base: 4}, {Base: 1, Bits: 1<<2 | 1<<5}, window.New()}
	kept := slices.Clone(clients)
	gone := func(r api.Request) bool {
		return r.Client == 0 && r.Num >= 1 && r.Num < 4 || r.Client == 1 && (r.Num == 3 || r.Num == 6)
	}
	before := make([][]api.Request, 4)
	for b := range before {
		before[b] = p.In(b)
	}
	if n := p.Sweep(clients[:3:3]); n != 5 || p.Len() != len(all)-5 {
		t.Fatalf("%d went, %d are left", n, p.Len())
	}
	if !slices.Equal(clients, kept) {
		t.Error("the windows were changed")
	}
	for _, r := range all {
		if p.Has(r.Client, r.Num) == gone(r) {
			t.Errorf("%v: %v", r, p.Has(r.Client, r.Num))
		}
	}
	for b := range before {
		if want := slices.DeleteFunc(before[b], gone); !slices.Equal(p.In(b), want) {
			t.Errorf("bucket %d: %v, not %v", b, p.In(b), want)
		}
	}
	// What went is let in again: the pool does not know what was delivered.
	if n := p.Sweep(clients); n != 0 {
		t.Error(n)
	}
	add(t, p, asked(0, 1))
	if n := p.Sweep(clients); n != 1 || p.Has(0, 1) {
		t.Error(n)
	}
}

func TestSweepNothing(t *testing.T) {
	p := pool(t, 1, 4)
	add(t, p, asked(2, 5), asked(math.MaxInt, 1), asked(0, 0))
	before := look(p)
	last := api.Window{Base: api.MaxNum + 1}
	for _, clients := range [][]api.Window{
		nil, {}, {last}, {last, last}, // client 2 has no place
		{window.New(), window.New(), window.New()},
		{{}, {}, {Base: 100, Bits: 1}}, {{}, {}, {Base: api.MaxNum + 2}}, // windows that may not be
		{last, last, {Base: 4, Bits: 1<<2 | 1<<3}}, // 6 and 7, not 5
	} {
		if n := p.Sweep(clients); n != 0 || !look(p).same(before) {
			t.Errorf("%v: %d went", clients, n)
		}
	}
	if n := p.Sweep([]api.Window{{}, {}, {Base: 4, Bits: 1 << 1}}); n != 1 || p.Has(2, 5) || p.Len() != 2 {
		t.Error(n)
	}
}

func TestSweepMakesRoom(t *testing.T) {
	p := pool(t, 1, 2)
	add(t, p, asked(0, 1), asked(0, 2))
	if n := p.Sweep([]api.Window{{Base: 2}}); n != 1 {
		t.Fatal(n)
	}
	add(t, p, asked(0, 3))
	if err := p.Add(asked(0, 4)); err != api.ErrFull {
		t.Error(int(err))
	}
	if l := p.In(0); !slices.Equal(l, []api.Request{asked(0, 2), asked(0, 3)}) {
		t.Error(l)
	}
}

func TestClear(t *testing.T) {
	p, in := filled(t)
	if err := p.Clear(); err != api.OK || p.Len() != 0 {
		t.Fatal(int(err), p.Len())
	}
	for b := range in {
		for _, r := range in[b] {
			if p.Has(r.Client, r.Num) {
				t.Errorf("%v waits", r)
			}
		}
		if l := p.In(b); len(l) != 0 {
			t.Error(l)
		}
	}
	if l := p.Pick([]int{0, 1, 2}, 9, nil); len(l) != 0 {
		t.Error(l)
	}
	// It has its buckets and its room as before.
	for b := range in {
		add(t, p, in[b]...)
		if err := p.Add(of(5, b, 3, 1)[0]); err != api.ErrFull {
			t.Error(int(err))
		}
	}
	if p.Clear() != api.OK || p.Clear() != api.OK || p.Len() != 0 {
		t.Error("twice")
	}
}

// Rule 1: a pool that no call made.

func TestNoPool(t *testing.T) {
	for _, p := range []*Pool{nil, {}} {
		if err := p.Add(asked(0, 1)); err != api.ErrNil {
			t.Error(int(err))
		}
		if err := p.Add(asked(-1, -1)); err != api.ErrNil {
			t.Error("ErrNil goes ahead of ErrArg", int(err))
		}
		if p.Has(0, 1) || p.Has(0, 0) || p.Len() != 0 {
			t.Error("something waits")
		}
		for b := -1; b < 3; b++ {
			if l := p.In(b); len(l) != 0 {
				t.Error(l)
			}
		}
		if l := p.Pick([]int{0, 1, -1}, 3, []api.Batch{{Requests: []api.Request{asked(0, 1)}}}); len(l) != 0 {
			t.Error(l)
		}
		if n := p.Sweep([]api.Window{{Base: 9}}); n != 0 {
			t.Error(n)
		}
		if err := p.Clear(); err != api.ErrNil {
			t.Error(int(err))
		}
	}
}

// P10.4, P10.5, P10.6: long runs beside a pool that is one list.

func TestLongRun(t *testing.T) {
	x := uint64(3)
	below := func(n int) int {
		x = x*6364136223846793005 + 1442695040888963407
		return int(x>>33) % n
	}
	for range 30 {
		buckets, room := 1+below(5), 1+below(4)
		p := pool(t, buckets, room)
		var all []api.Request
		for range 300 {
			switch below(12) {
			case 0:
				clients := make([]api.Window, below(4))
				for i := range clients {
					clients[i] = api.Window{Base: below(12), Bits: uint64(below(8)) * 2}
				}
				rest := slices.DeleteFunc(slices.Clone(all), func(r api.Request) bool {
					return r.Client < len(clients) && window.Done(clients[r.Client], r.Num)
				})
				if n := p.Sweep(clients); n != len(all)-len(rest) {
					t.Fatalf("Sweep(%v): %d", clients, n)
				}
				all = rest
			case 1:
				if below(10) == 0 {
					p.Clear()
					all = nil
				}
			default:
				r := asked(below(4)-1, below(15)-1)
				before := look(p)
				err := p.Add(r)
				if want := refused(all, r, buckets, room); err != want {
					t.Fatalf("Add(%v): %d, not %d", r, int(err), int(want))
				}
				if err == api.OK {
					all = append(all, r)
				} else if !look(p).same(before) {
					t.Fatalf("Add(%v): refused, and something changed", r)
				}
			}
			held(t, p, all, buckets, room)
		}
	}
}

// refused tells what a pool of those requests answers to one more.
func refused(all []api.Request, r api.Request, buckets, room int) api.Errno {
	if r.Client < 0 || r.Num < 0 {
		return api.ErrArg
	}
	many := 0
	for _, x := range all {
		if x.Client == r.Client && x.Num == r.Num {
			return api.ErrThere
		}
		if request.Bucket(x.Client, x.Num, buckets) == request.Bucket(r.Client, r.Num, buckets) {
			many++
		}
	}
	if many >= room {
		return api.ErrFull
	}
	return api.OK
}

// held tests that a pool has those requests, in each bucket as they came, and picks the first first.
func held(t *testing.T, p *Pool, all []api.Request, buckets, room int) {
	t.Helper()
	if p.Len() != len(all) {
		t.Fatalf("%d wait, not %d", p.Len(), len(all))
	}
	for b := range buckets {
		var want []api.Request
		for _, r := range all {
			if !p.Has(r.Client, r.Num) {
				t.Fatalf("%v does not wait", r)
			}
			if request.Bucket(r.Client, r.Num, buckets) == b {
				want = append(want, r)
			}
		}
		if l := p.In(b); !slices.Equal(l, want) || len(l) > room {
			t.Fatalf("bucket %d: %v, not %v", b, l, want)
		}
		if l := p.Pick([]int{b}, 1, nil); !slices.Equal(l, want[:min(1, len(want))]) {
			t.Fatalf("bucket %d: %v is picked first, of %v", b, l, want)
		}
	}
}

// What a pool answers hangs on what it was given alone.

func TestAlike(t *testing.T) {
	first, _ := filled(t)
	for range 20 {
		p, in := filled(t)
		busy := []api.Batch{{Requests: []api.Request{in[0][1], in[2][2]}}}
		if !look(p).same(look(first)) || !slices.Equal(p.Pick([]int{2, 0}, 5, busy), first.Pick([]int{2, 0}, 5, busy)) {
			t.Fatal("two pools of the same requests are unlike")
		}
	}
}
