package crc24

import (
	"math"
	"testing"
)

// plain goes on with a sum bit by bit, in the words of the document.
func plain(sum int, b []byte) int {
	for _, c := range b {
		sum ^= int(c) << 16
		for range 8 {
			sum <<= 1
			if sum >= 1<<24 {
				sum = (sum - 1<<24) ^ 0x864cfb
			}
		}
	}
	return sum
}

// someBytes are n bytes that look like chance and are always the same.
func someBytes(n, seed int) []byte {
	x := uint32(seed)*2654435761 + 12345
	out := make([]byte, n)
	for i := range out {
		x = x*1664525 + 1013904223
		out[i] = byte(x >> 24)
	}
	return out
}

// P2.1

func TestSum(t *testing.T) {
	for _, x := range []struct {
		s    string
		want int
	}{
		{"", 0xb704ce},
		{"123456789", 0x21cf02},
	} {
		if got := Sum([]byte(x.s)); got != x.want {
			t.Errorf("Sum(%q): %06x, want %06x", x.s, got, x.want)
		}
	}
	if got := Sum(nil); got != 0xb704ce {
		t.Errorf("Sum(nil): %06x", got)
	}
	for n := range 300 {
		b := someBytes(n, n)
		if got, want := Sum(b), plain(0xb704ce, b); got != want {
			t.Errorf("Sum of %x: %06x, want %06x", b, got, want)
		}
	}
}

func TestNextOfEachByte(t *testing.T) {
	for c := range 256 {
		for _, sum := range []int{0, 1, 0x800000, 0xb704ce, 0xffffff} {
			b := []byte{byte(c)}
			if got, want := Next(sum, b), plain(sum, b); got != want {
				t.Errorf("Next(%06x, %x): %06x, want %06x", sum, b, got, want)
			}
		}
	}
}

func TestNextTakesTheLowest24Bits(t *testing.T) {
	for _, x := range []struct{ sum, low int }{
		{0, 0},
		{0xffffff, 0xffffff},
		{1 << 24, 0},
		{1<<24 | 5, 5},
		{math.MaxInt, 0xffffff},
		{-1, 0xffffff},
		{-2, 0xfffffe},
		{-1 << 24, 0},
		{math.MinInt, 0},
		{math.MinInt + 7, 7},
	} {
		if got := Next(x.sum, nil); got != x.low {
			t.Errorf("Next(%d, nil): %06x, want %06x", x.sum, got, x.low)
		}
		if got := Next(x.sum, []byte{}); got != x.low {
			t.Errorf("Next(%d, empty): %06x, want %06x", x.sum, got, x.low)
		}
		b := []byte("some")
		if got, want := Next(x.sum, b), plain(x.low, b); got != want {
			t.Errorf("Next(%d, some): %06x, want %06x", x.sum, got, want)
		}
	}
}

func TestBytesStayAsTheyAre(t *testing.T) {
	whole := []byte("123456789abc")
	if got := Sum(whole[:9]); got != 0x21cf02 || string(whole) != "123456789abc" {
		t.Errorf("Sum: %06x, and the bytes are %q", got, whole)
	}
}

// P2.2

func TestFits(t *testing.T) {
	b := []byte("123456789")
	for _, x := range []struct {
		b    []byte
		sum  int
		want bool
	}{
		{b, 0x21cf02, true},
		{nil, 0xb704ce, true},
		{b, 0x21cf03, false},
		{b, 0xb704ce, false},
		{nil, 0, false},
		{b, 0x21cf02 | 1<<24, false},
		{b, 0x21cf02 | 1<<62, false},
		{b, 0x21cf02 - 1<<24, false},
		{b, 0x21cf02 | math.MinInt, false},
		{b, -0x21cf02, false},
		{b, -1, false},
	} {
		if got := Fits(x.b, x.sum); got != x.want {
			t.Errorf("Fits(%q, %x): %v", x.b, x.sum, got)
		}
	}
}

// P2.3

func TestCuts(t *testing.T) {
	b := someBytes(40, 3)
	want := Sum(b)
	for i := range len(b) + 1 {
		for j := i; j <= len(b); j++ {
			if got := Next(Next(Sum(b[:i]), b[i:j]), b[j:]); got != want {
				t.Errorf("cut at %d and %d: %06x, want %06x", i, j, got, want)
			}
		}
	}
	sum := Sum(nil)
	for i := range b {
		sum = Next(sum, b[i:i+1])
	}
	if sum != want {
		t.Errorf("byte by byte: %06x, want %06x", sum, want)
	}
}

// P2.4

// Texts of three bytes are as many as sums: unlike sums of them all are each sum once.
func TestThreeBytesHaveUnlikeSums(t *testing.T) {
	met := make([]bool, 1<<24)
	step := stepsOfThree()
	for x := range 1 << 24 {
		sum := step(x)
		if sum < 0 || sum >= 1<<24 || met[sum] {
			t.Fatalf("the sum %06x of %06x was met already, or is no sum", sum, x)
		}
		met[sum] = true
	}
}

func stepsOfThree() func(x int) int {
	b := make([]byte, 3)
	return func(x int) int {
		b[0], b[1], b[2] = byte(x>>16), byte(x>>8), byte(x)
		return Sum(b)
	}
}

func TestBursts(t *testing.T) {
	text := someBytes(12, 5)
	sum := Sum(text)
	x := uint32(77)
	for at := range 8*len(text) - 24 + 1 {
		for i := range 500 {
			x = x*1664525 + 1013904223
			burst := int(x >> 8)
			if i < 24 {
				burst = 1 << i
			}
			if burst == 0 {
				continue
			}
			other := flip(text, at, burst)
			if Sum(other) == sum {
				t.Errorf("a burst of %06x at bit %d leaves the sum as it is", burst, at)
			}
		}
	}
}

// flip turns about those of the 24 bits from a place on that are set in burst.
func flip(text []byte, at, burst int) []byte {
	out := append([]byte{}, text...)
	for i := range 24 {
		if burst>>(23-i)&1 == 1 {
			out[(at+i)/8] ^= 0x80 >> ((at + i) % 8)
		}
	}
	return out
}

// P2.5

func TestXorOfThree(t *testing.T) {
	for n := range 100 {
		a, b, c := someBytes(n, 1), someBytes(n, 2), someBytes(n, 3)
		mixed := make([]byte, n)
		for i := range mixed {
			mixed[i] = a[i] ^ b[i] ^ c[i]
		}
		if got, want := Sum(mixed), Sum(a)^Sum(b)^Sum(c); got != want {
			t.Errorf("of length %d: %06x, want %06x", n, got, want)
		}
	}
}
