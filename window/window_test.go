package window

import (
	"bytes"
	"math"
	"slices"
	"testing"

	"raddle/api"
	"raddle/tally"
)

const full = math.MaxUint64

// maybe are windows that may be: the first, the last ones, all places of the highest bit, and many without a rule that is seen.
func maybe() []api.Window {
	const end = api.MaxNum + 1
	out := []api.Window{
		{Base: 1}, {Base: 1, Bits: 2}, {Base: 1, Bits: full - 1}, {Base: 2}, {Base: 300, Bits: 1<<63 | 1<<32 | 1<<31},
		{Base: end}, {Base: end - 1}, {Base: end - 2}, {Base: end - 2, Bits: 2}, {Base: end - 3, Bits: 4},
		{Base: end - 64, Bits: full - 1}, {Base: end - 63, Bits: 1<<63 - 2}, {Base: end - 65, Bits: full - 1},
	}
	for i := 1; i < 64; i++ {
		out = append(out, api.Window{Base: 7, Bits: 1 << i}, api.Window{Base: end - 1 - i, Bits: 1 << i})
	}
	x := uint64(1)
	for range 100 {
		x = x*6364136223846793005 + 1442695040888963407
		out = append(out, api.Window{Base: 1 + int(x>>(24+x%40)), Bits: x &^ 1})
	}
	return out
}

// never are windows that may not be.
func never() []api.Window {
	const end = api.MaxNum + 1
	out := []api.Window{
		{}, {Bits: 2}, {Base: -1}, {Base: -1, Bits: 2}, {Base: math.MinInt}, {Base: math.MinInt, Bits: full - 1},
		{Base: 1, Bits: 1}, {Base: 1, Bits: 3}, {Base: 5, Bits: full}, {Base: 5, Bits: 1<<63 | 1},
		{Base: end + 1}, {Base: end + 64}, {Base: math.MaxInt}, {Base: math.MaxInt, Bits: full - 1}, {Base: math.MaxInt, Bits: full},
		{Base: end, Bits: 1}, {Base: end, Bits: 2}, {Base: end, Bits: 1 << 63}, {Base: end, Bits: full - 1},
		{Base: end - 1, Bits: 1}, {Base: end - 1, Bits: 2}, {Base: end - 1, Bits: 1 << 63},
		{Base: end - 63, Bits: full - 1}, {Base: end - 64, Bits: full},
	}
	for i := 1; i < 64; i++ {
		out = append(out, api.Window{Base: end - i, Bits: 1 << i})
	}
	return out
}

// delivered tells by the document's words, of a window that may be, whether a number is there.
func delivered(w api.Window, num int) bool {
	for i := range 64 {
		if w.Bits>>i&1 == 1 && num == w.Base+i {
			return true
		}
	}
	return num >= 1 && num < w.Base
}

// around are numbers below, in and above a window, and those at the ends of what may be and of an int.
func around(w api.Window) []int {
	out := []int{math.MinInt, math.MinInt + 1, -1, 0, 1, 2, api.MaxNum - 1, api.MaxNum, api.MaxNum + 1, api.MaxNum + 65, math.MaxInt - 1, math.MaxInt}
	for i := -70; i < 70; i++ {
		out = append(out, w.Base+i)
	}
	return out
}

// marked is the window behind marks of numbers, none of which may be refused.
func marked(t *testing.T, w api.Window, nums ...int) api.Window {
	t.Helper()
	for _, num := range nums {
		next, err := Mark(w, num)
		if err != api.OK {
			t.Fatalf("Mark(%v, %d): %d", w, num, int(err))
		}
		w = next
	}
	return w
}

// number is a number's bytes by the document's words.
func number(n int) []byte {
	var low []byte
	for ; n > 0; n >>= 8 {
		low = append(low, byte(n))
	}
	slices.Reverse(low)
	return append([]byte{byte(len(low))}, low...)
}

// laid is a window's bytes by the document's words, of numbers that need not fit.
func laid(base, high, low int) []byte {
	return slices.Concat(number(base), number(high), number(low))
}

// The chapter's example.

func TestExample(t *testing.T) {
	w, err := Mark(New(), 2)
	if w != (api.Window{Base: 1, Bits: 2}) || err != api.OK {
		t.Error(w, int(err))
	}
	w, err = Mark(w, 1)
	if w != (api.Window{Base: 3}) || err != api.OK {
		t.Error(w, int(err))
	}
}

// P9.1

func TestNew(t *testing.T) {
	if w := New(); w != (api.Window{Base: 1}) || !Good(w) || Count(w) != 0 {
		t.Error(w)
	}
}

func TestGood(t *testing.T) {
	for _, w := range maybe() {
		if !Good(w) {
			t.Errorf("%v may be", w)
		}
	}
	for _, w := range never() {
		if Good(w) {
			t.Errorf("%v may not be", w)
		}
	}
}

func TestDone(t *testing.T) {
	for _, w := range maybe() {
		for _, num := range around(w) {
			if got := Done(w, num); got != delivered(w, num) {
				t.Fatalf("Done(%v, %d): %v", w, num, got)
			}
		}
	}
	for _, w := range never() {
		for _, num := range around(w) {
			if Done(w, num) {
				t.Fatalf("Done(%v, %d): the window may not be", w, num)
			}
		}
	}
}

func TestCount(t *testing.T) {
	for _, w := range maybe() {
		want := w.Base - 1
		for i := range 64 {
			want += int(w.Bits >> i & 1)
		}
		if got := Count(w); got != want {
			t.Errorf("Count(%v): %d", w, got)
		}
	}
	for _, w := range never() {
		if got := Count(w); got != 0 {
			t.Errorf("Count(%v): %d", w, got)
		}
	}
}

// P9.2

func TestAsk(t *testing.T) {
	for _, w := range maybe() {
		for _, size := range []int{1, 2, 4, 63, 64} {
			for _, num := range around(w) {
				want := api.OK
				switch {
				case num < 1 || num > api.MaxNum:
					want = api.ErrArg
				case delivered(w, num):
					want = api.ErrOld
				case num >= w.Base+size:
					want = api.ErrFar
				}
				if err := Ask(w, size, num); err != want {
					t.Fatalf("Ask(%v, %d, %d): %d, not %d", w, size, num, int(err), int(want))
				}
			}
		}
	}
}

func TestAskWrong(t *testing.T) {
	sizes := []int{math.MinInt, -64, -1, 0, api.MaxWindow + 1, 128, math.MaxInt}
	for _, w := range maybe() {
		for _, size := range sizes {
			// Old and far numbers too: ErrArg goes ahead.
			for _, num := range around(w) {
				if err := Ask(w, size, num); err != api.ErrArg {
					t.Fatalf("Ask(%v, %d, %d): %d", w, size, num, int(err))
				}
			}
		}
	}
	for _, w := range never() {
		for _, size := range append(sizes, 1, api.MaxWindow) {
			for _, num := range around(w) {
				if err := Ask(w, size, num); err != api.ErrArg {
					t.Fatalf("Ask(%v, %d, %d): %d", w, size, num, int(err))
				}
			}
		}
	}
}

func TestAskOrder(t *testing.T) {
	w := api.Window{Base: 3, Bits: 1 << 10}
	for _, x := range []struct {
		size, num int
		want      api.Errno
	}{
		{0, 13, api.ErrArg}, {65, 1, api.ErrArg}, {64, 0, api.ErrArg}, {1, api.MaxNum + 1, api.ErrArg},
		{1, 13, api.ErrOld}, // far for that size, too
		{1, 2, api.ErrOld}, {1, 3, api.OK}, {1, 4, api.ErrFar}, {10, 12, api.OK}, {10, 14, api.ErrFar},
		{64, 66, api.OK}, {64, 67, api.ErrFar}, {64, api.MaxNum, api.ErrFar},
	} {
		if err := Ask(w, x.size, x.num); err != x.want {
			t.Errorf("Ask(size %d, %d): %d, not %d", x.size, x.num, int(err), int(x.want))
		}
	}
}

// P9.3

func TestMark(t *testing.T) {
	for _, w := range maybe() {
		for _, num := range around(w) {
			got, err := Mark(w, num)
			if want := Ask(w, api.MaxWindow, num); err != want {
				t.Fatalf("Mark(%v, %d): %d, not %d", w, num, int(err), int(want))
			}
			if err != api.OK {
				if got != (api.Window{}) {
					t.Fatalf("Mark(%v, %d): %v beside an error", w, num, got)
				}
				continue
			}
			want := api.Window{Base: w.Base, Bits: w.Bits | 1<<(num-w.Base)}
			for want.Bits&1 == 1 {
				want = api.Window{Base: want.Base + 1, Bits: want.Bits >> 1}
			}
			if got != want || !Good(got) {
				t.Fatalf("Mark(%v, %d): %v, not %v", w, num, got, want)
			}
		}
	}
}

func TestMarkEdges(t *testing.T) {
	for _, x := range []struct {
		w    api.Window
		num  int
		want api.Window
		err  api.Errno
	}{
		{New(), 1, api.Window{Base: 2}, api.OK},
		{New(), 64, api.Window{Base: 1, Bits: 1 << 63}, api.OK},
		{New(), 65, api.Window{}, api.ErrFar},
		{api.Window{Base: 1, Bits: full - 1}, 1, api.Window{Base: 65}, api.OK},
		{api.Window{Base: 1, Bits: 0b11101110}, 1, api.Window{Base: 5, Bits: 0b1110}, api.OK},
		{api.Window{Base: api.MaxNum}, api.MaxNum, api.Window{Base: api.MaxNum + 1}, api.OK},
		{api.Window{Base: api.MaxNum - 1}, api.MaxNum, api.Window{Base: api.MaxNum - 1, Bits: 2}, api.OK},
		{api.Window{Base: api.MaxNum - 1, Bits: 2}, api.MaxNum - 1, api.Window{Base: api.MaxNum + 1}, api.OK},
		{api.Window{Base: api.MaxNum + 1}, api.MaxNum, api.Window{}, api.ErrOld},
		{api.Window{Base: api.MaxNum + 1}, api.MaxNum + 1, api.Window{}, api.ErrArg},
		{api.Window{}, 1, api.Window{}, api.ErrArg},
		{api.Window{Base: 1, Bits: 1}, 2, api.Window{}, api.ErrArg},
	} {
		if got, err := Mark(x.w, x.num); got != x.want || err != x.err {
			t.Errorf("Mark(%v, %d): %v, %d", x.w, x.num, got, int(err))
		}
	}
	for _, w := range never() {
		for _, num := range around(w) {
			if got, err := Mark(w, num); got != (api.Window{}) || err != api.ErrArg {
				t.Fatalf("Mark(%v, %d): %v, %d", w, num, got, int(err))
			}
		}
	}
}

// P9.4

func TestPut(t *testing.T) {
	for _, w := range maybe() {
		want := append([]byte("ahead"), laid(w.Base, int(w.Bits/(1<<32)), int(w.Bits%(1<<32)))...)
		if got := Put([]byte("ahead"), w); !bytes.Equal(got, want) {
			t.Errorf("Put(%v): %x, not %x", w, got, want)
		}
		if got := Put(nil, w); !bytes.Equal(got, want[5:]) {
			t.Errorf("Put(%v) behind nothing: %x", w, got)
		}
	}
	// Windows that may not be are put as well; a base below 0 is no number, so that nothing is laid for it.
	if got := Put(nil, api.Window{}); !bytes.Equal(got, []byte{0, 0, 0}) {
		t.Errorf("%x", got)
	}
	if got := Put(nil, api.Window{Base: -1, Bits: 1<<32 | 5}); !bytes.Equal(got, []byte{1, 1, 1, 5}) {
		t.Errorf("%x", got)
	}
	if got := Put(nil, api.Window{Base: math.MaxInt, Bits: full}); !bytes.Equal(got, laid(math.MaxInt, math.MaxUint32, math.MaxUint32)) {
		t.Errorf("%x", got)
	}
}

func TestPutNewMemory(t *testing.T) {
	whole := []byte("abcdefghijklmnopqrstuvwxyz0123456789")
	kept := bytes.Clone(whole)
	out := Put(whole[:3], api.Window{Base: 5, Bits: 2})
	if !bytes.Equal(whole, kept) {
		t.Error("the spare room was written into")
	}
	for i := range out {
		out[i]++
	}
	if !bytes.Equal(whole, kept) {
		t.Error("the answer shares what was handed in")
	}
}

func TestGetErrors(t *testing.T) {
	const half = 1<<32 - 1
	long, cut, form := api.ErrLong, api.ErrCut, api.ErrForm
	for _, x := range []struct {
		b    []byte
		want api.Errno
	}{
		{nil, cut}, {number(1), cut}, {slices.Concat(number(1), number(0)), cut},
		{laid(api.MaxNum+2, 0, 0), long}, {laid(math.MaxInt, 0, 0), long},
		{laid(1, half+1, 0), long}, {laid(1, 0, half+1), long}, {laid(1, math.MaxInt, 0), long}, {laid(1, 0, math.MaxInt), long},
		{[]byte{1, 0, 0, 0}, form}, {[]byte{9}, form}, {[]byte{1, 1, 1, 0, 0}, form}, {[]byte{1, 1, 0, 1, 0}, form},
		{[]byte{1, 1, 2, 1}, cut}, {[]byte{1, 1, 0, 4, 1, 1, 1}, cut},
	} {
		r := tally.Read(x.b)
		if w := Get(r); w != (api.Window{}) || r.Err() != x.want {
			t.Errorf("%x: %v, %d", x.b, w, int(r.Err()))
		}
	}
}

func TestGetMayNotBe(t *testing.T) {
	for _, w := range never() {
		if w.Base < 0 || w.Base > api.MaxNum+1 {
			continue
		}
		r := tally.Read(append(laid(w.Base, int(w.Bits>>32), int(w.Bits&math.MaxUint32)), number(77)...))
		if got := Get(r); got != (api.Window{}) || r.Err() != api.OK {
			t.Errorf("%v: %v, %d", w, got, int(r.Err()))
		}
		// It was read, and the reader goes on behind it.
		if n := r.Num(100); n != 77 || r.Done() != api.OK {
			t.Errorf("%v: behind it %d, %d", w, n, int(r.Done()))
		}
	}
}

func TestGetNoReader(t *testing.T) {
	if w := Get(nil); w != (api.Window{}) {
		t.Error(w)
	}
	r := &tally.Reader{}
	if w := Get(r); w != (api.Window{}) || r.Err() != api.ErrNil {
		t.Error(w)
	}
	failed := tally.Read(slices.Concat(number(9), laid(1, 0, 2)))
	failed.Num(8)
	if w := Get(failed); w != (api.Window{}) || failed.Err() != api.ErrLong {
		t.Error(w, int(failed.Err()))
	}
}

// P9.5

func TestAnyOrder(t *testing.T) {
	var orders func(done, left []int, each func([]int))
	orders = func(done, left []int, each func([]int)) {
		if len(left) == 0 {
			each(done)
		}
		for i := range left {
			orders(append(slices.Clone(done), left[i]), slices.Concat(left[:i], left[i+1:]), each)
		}
	}
	for _, nums := range [][]int{{1, 2, 3, 4}, {1, 3, 5, 64}, {2, 4, 6, 8, 10}, {1, 2, 4, 63, 64}} {
		want := marked(t, New(), nums...)
		orders(nil, nums, func(l []int) {
			if got := marked(t, New(), l...); got != want {
				t.Errorf("%v: %v, not %v", l, got, want)
			}
		})
	}
}

func TestAnyOrderMany(t *testing.T) {
	x := uint64(5)
	below := func(n int) int {
		x = x*6364136223846793005 + 1442695040888963407
		return int(x>>33) % n
	}
	for range 200 {
		base := 1 + below(1000)
		nums := make([]int, 1+below(64))
		for i := range nums {
			nums[i] = base + i + below(2)*(64-len(nums))
		}
		slices.Sort(nums)
		nums = slices.Compact(nums)
		var bits uint64
		for _, num := range nums {
			bits |= 1 << (num - base)
		}
		want := settledSlowly(api.Window{Base: base, Bits: bits})
		for range 5 {
			for i := range nums {
				j := i + below(len(nums)-i)
				nums[i], nums[j] = nums[j], nums[i]
			}
			if got := marked(t, api.Window{Base: base}, nums...); got != want || Count(got) != base-1+len(nums) {
				t.Fatalf("from %d, %v: %v, not %v", base, nums, got, want)
			}
		}
	}
}

// settledSlowly moves a window on by one number after the other.
func settledSlowly(w api.Window) api.Window {
	for w.Bits%2 == 1 {
		w = api.Window{Base: w.Base + 1, Bits: w.Bits / 2}
	}
	return w
}

// P9.6

func TestOnce(t *testing.T) {
	w := New()
	var done []int
	for i := range 500 {
		// Numbers jump about within the window, and it goes on as they fill it.
		num := w.Base + i*37%64
		if i%3 == 0 {
			num = w.Base
		}
		next, err := Mark(w, num)
		if slices.Contains(done, num) {
			if err != api.ErrOld {
				t.Fatalf("%d again: %d", num, int(err))
			}
			continue
		}
		if err != api.OK {
			t.Fatalf("%d: %d", num, int(err))
		}
		w, done = next, append(done, num)
		if Count(w) != len(done) {
			t.Fatalf("%d of %d", Count(w), len(done))
		}
		for _, old := range done {
			if _, err := Mark(w, old); err != api.ErrOld || !Done(w, old) {
				t.Fatalf("%d behind %d: %d", old, num, int(err))
			}
		}
	}
	if len(done) < 200 {
		t.Fatal("few were marked: ", len(done))
	}
}

// P9.7

func TestBack(t *testing.T) {
	for _, w := range maybe() {
		r := tally.Read(append(Put(nil, w), number(5)...))
		if got := Get(r); got != w || r.Err() != api.OK {
			t.Errorf("%v: %v, %d", w, got, int(r.Err()))
		}
		if n := r.Num(9); n != 5 || r.Done() != api.OK {
			t.Errorf("behind %v: %d, %d", w, n, int(r.Done()))
		}
	}
}
