package mask

import (
	"math"
	"slices"
	"testing"
)

const full = math.MaxUint64

// masks are none, all, each single bit, all but it, all below it, all from it on, and many without a rule that is seen.
func masks() []uint64 {
	out := []uint64{0, full, 11, 0x5555555555555555, 0xaaaaaaaaaaaaaaaa, 1<<63 | 1}
	for i := range 64 {
		one := uint64(1) << i
		out = append(out, one, ^one, one-1, ^(one - 1))
	}
	x := uint64(1)
	for range 300 {
		x = x*6364136223846793005 + 1442695040888963407
		out = append(out, x, x&(x>>7), x|(x<<9))
	}
	return out
}

// outside are numbers that no bit has.
func outside() []int {
	return []int{-1, 64, 65, 127, 128, -63, -64, 1 << 32, math.MinInt, math.MinInt + 1, math.MaxInt - 1, math.MaxInt}
}

// bitsOf are a mask's set bits by halving, the lowest first.
func bitsOf(m uint64) []int {
	var out []int
	for i := 0; m > 0; i, m = i+1, m/2 {
		if m%2 == 1 {
			out = append(out, i)
		}
	}
	return out
}

func allOf(m uint64) []int {
	return slices.Collect(All(m))
}

// P8.1

func TestHas(t *testing.T) {
	for _, m := range masks() {
		set := bitsOf(m)
		for i := range 64 {
			if got, want := Has(m, i), slices.Contains(set, i); got != want {
				t.Fatalf("Has(%x, %d): %v", m, i, got)
			}
		}
		for _, i := range outside() {
			if Has(m, i) {
				t.Fatalf("Has(%x, %d): there is no such bit", m, i)
			}
		}
	}
}

func TestWith(t *testing.T) {
	for _, m := range masks() {
		for i := range 64 {
			got := With(m, i)
			want := bitsOf(m)
			if !slices.Contains(want, i) {
				want = append(want, i)
				slices.Sort(want)
			}
			if !slices.Equal(bitsOf(got), want) {
				t.Fatalf("With(%x, %d): %x", m, i, got)
			}
		}
		for _, i := range outside() {
			if got := With(m, i); got != m {
				t.Fatalf("With(%x, %d): %x, there is no such bit", m, i, got)
			}
		}
	}
}

// P8.2

func TestDown(t *testing.T) {
	for _, x := range []struct {
		m    uint64
		n    int
		want uint64
	}{
		{11, 1, 5},
		{11, 2, 2},
		{11, 3, 1},
		{11, 4, 0},
		{full, 0, full},
		{full, -1, full},
		{full, math.MinInt, full},
		{full, 1, full / 2},
		{full, 62, 3},
		{full, 63, 1},
		{full, 64, 0},
		{full, 65, 0},
		{full, 127, 0},
		{full, 128, 0},
		{full, 1 << 32, 0},
		{full, math.MaxInt, 0},
		{1 << 63, 63, 1},
		{1 << 63, 64, 0},
		{1<<63 - 1, 63, 0},
		{0, 0, 0},
		{0, 5, 0},
	} {
		if got := Down(x.m, x.n); got != x.want {
			t.Errorf("Down(%x, %d): %x, want %x", x.m, x.n, got, x.want)
		}
	}
}

func TestOnes(t *testing.T) {
	for _, m := range masks() {
		want := 0
		for i, b := range bitsOf(m) {
			if b != i {
				break
			}
			want++
		}
		if got := Ones(m); got != want {
			t.Errorf("Ones(%x): %d, want %d", m, got, want)
		}
	}
	for _, x := range []struct {
		m    uint64
		want int
	}{
		{0, 0},
		{1, 1},
		{2, 0},
		{11, 2},
		{full, 64},
		{full - 1, 0},
		{full / 2, 63},
		{1<<63 | 1, 1},
		{^uint64(1 << 5), 5},
	} {
		if got := Ones(x.m); got != x.want {
			t.Errorf("Ones(%x): %d, want %d", x.m, got, x.want)
		}
	}
}

func TestMany(t *testing.T) {
	for _, m := range masks() {
		if got, want := Many(m), len(bitsOf(m)); got != want {
			t.Errorf("Many(%x): %d, want %d", m, got, want)
		}
	}
	for _, x := range []struct {
		m    uint64
		want int
	}{
		{0, 0},
		{11, 3},
		{1 << 63, 1},
		{full, 64},
		{full - 1, 63},
	} {
		if got := Many(x.m); got != x.want {
			t.Errorf("Many(%x): %d, want %d", x.m, got, x.want)
		}
	}
}

// P8.3

func TestAll(t *testing.T) {
	for _, m := range masks() {
		if got, want := allOf(m), bitsOf(m); !slices.Equal(got, want) {
			t.Errorf("All(%x): %v, want %v", m, got, want)
		}
	}
	if got := allOf(1<<63 | 11); !slices.Equal(got, []int{0, 1, 3, 63}) {
		t.Errorf("All: %v", got)
	}
}

func TestAllLeftEarly(t *testing.T) {
	for _, m := range masks() {
		set := bitsOf(m)
		all := All(m)
		for n := 1; n <= len(set); n++ {
			var got []int
			for i := range all {
				got = append(got, i)
				if len(got) == n {
					break
				}
			}
			if !slices.Equal(got, set[:n]) {
				t.Fatalf("All(%x) left at the place %d: %v", m, n, got)
			}
		}
	}
}

// A yield that says no must not be asked again, whoever calls the function.
func TestAllAsksNoMore(t *testing.T) {
	asked := 0
	All(full)(func(int) bool {
		asked++
		return asked < 3
	})
	if asked != 3 {
		t.Errorf("asked %d times, want 3", asked)
	}
}

func TestAllAgain(t *testing.T) {
	const m = 1<<40 | 6
	all := All(m)
	for range all {
		break
	}
	for range 2 {
		if got := slices.Collect(all); !slices.Equal(got, []int{1, 2, 40}) {
			t.Errorf("ranged over again: %v", got)
		}
	}
	for i := range all {
		if got := slices.Collect(all); !slices.Equal(got, []int{1, 2, 40}) {
			t.Errorf("ranged over within %d: %v", i, got)
		}
	}
}

func TestOf(t *testing.T) {
	for _, x := range []struct {
		l    []int
		want uint64
	}{
		{nil, 0},
		{[]int{}, 0},
		{[]int{0}, 1},
		{[]int{63}, 1 << 63},
		{[]int{0, 1, 3}, 11},
		{[]int{3, 1, 0}, 11},
		{[]int{3, 3, 1, 3, 0, 0, 1, 3}, 11},
		{[]int{5, 5, 5, 5, 5}, 32},
		{[]int{-1, 0, 64}, 1},
		{[]int{64, 63, -1, 62}, 3 << 62},
		{outside(), 0},
		{append(outside(), 7), 128},
	} {
		if got := Of(x.l); got != x.want {
			t.Errorf("Of(%v): %x, want %x", x.l, got, x.want)
		}
	}
}

func TestOfLeavesItsList(t *testing.T) {
	whole := []int{3, -1, 3, 64, 0, 9, 9, 9}
	was := slices.Clone(whole)
	if got := Of(whole[:5]); got != 9 {
		t.Errorf("Of: %x: what lies behind the list's length was read", got)
	}
	if !slices.Equal(whole, was) {
		t.Errorf("what was handed in is now %v", whole)
	}
}

// P8.4

func TestOfOverAll(t *testing.T) {
	for _, m := range masks() {
		if got := Of(allOf(m)); got != m {
			t.Errorf("Of over All of %x: %x", m, got)
		}
	}
}

func TestAllOverOf(t *testing.T) {
	for _, m := range masks() {
		var l []int
		for at, i := range bitsOf(m) {
			// Out of order, some of them again, and others between.
			l = append([]int{i, outside()[at%len(outside())]}, l...)
			if at%3 == 0 {
				l = append(l, i, i)
			}
		}
		if got := allOf(Of(l)); !slices.Equal(got, bitsOf(m)) {
			t.Errorf("All over Of of %v: %v", l, got)
		}
	}
}

// P8.5

func TestDownBitByBit(t *testing.T) {
	for _, m := range masks() {
		for n := range 70 {
			down := Down(m, n)
			for i := range 70 {
				if Has(down, i) != Has(m, i+n) {
					t.Fatalf("Down(%x, %d) is %x: bit %d", m, n, down, i)
				}
			}
		}
	}
}
