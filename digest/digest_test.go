package digest

import (
	"bytes"
	"crypto/sha256"
	"math"
	"math/big"
	"strings"
	"testing"

	"raddle/api"
)

// some makes n bytes that are unlike their neighbours.
func some(n int) []byte {
	b := make([]byte, n)
	for i := range b {
		b[i] = byte(i*167 + i>>8 + 13)
	}
	return b
}

// lengths are all up to three blocks and a bit, which has each place about a block's end, and some great ones.
func lengths() []int {
	var out []int
	for n := range 200 {
		out = append(out, n)
	}
	return append(out, 255, 256, 1000, 4095, 4096, 4097, 65536, 100001)
}

// P3.1

func TestSumOfWhatIsWellKnown(t *testing.T) {
	for _, x := range []struct{ s, want string }{
		{"", "e3b0c44298fc1c149afbf4c8996fb92427ae41e4649b934ca495991b7852b855"},
		{"abc", "ba7816bf8f01cfea414140de5dae2223b00361a396177a9cb410ff61f20015ad"},
		{"abcdbcdecdefdefgefghfghighijhijkijkljklmklmnlmnomnopnopq", "248d6a61d20638b8e5c026930c3e6039a33ce45964ff2167f6ecedd419db06c1"},
		{strings.Repeat("a", 1000000), "cdc76e5c9914fb9281a1c7e284d73e67f1809a48a497200e046d39ccc7112cd0"},
	} {
		if got := Text(Sum([]byte(x.s))); got != x.want {
			t.Errorf("Sum of %d bytes: %s, want %s", len(x.s), got, x.want)
		}
	}
}

func TestSumOfEachLength(t *testing.T) {
	for _, n := range lengths() {
		b := some(n)
		if got, want := Sum(b), api.Digest(sha256.Sum256(b)); got != want {
			t.Errorf("Sum of %d bytes: %s, want %s", n, Text(got), Text(want))
		}
	}
}

func TestSumOfNothing(t *testing.T) {
	want := api.Digest(sha256.Sum256(nil))
	for name, got := range map[string]api.Digest{
		"no part":         Sum(),
		"a nil list":      Sum([][]byte(nil)...),
		"an empty list":   Sum([][]byte{}...),
		"a nil part":      Sum(nil),
		"an empty part":   Sum([]byte{}),
		"many such parts": Sum(nil, []byte{}, nil, []byte{}),
	} {
		if got != want {
			t.Errorf("Sum of %s: %s, want %s", name, Text(got), Text(want))
		}
	}
}

func TestConstants(t *testing.T) {
	// The first 32 bits behind the point of a root of p are the root of p * 2^(32 * power), cut to 32 bits.
	behind := func(p, power int64) uint32 {
		x := new(big.Int).Lsh(big.NewInt(p), uint(32*power))
		low, high := big.NewInt(0), new(big.Int).Lsh(big.NewInt(1), 40)
		for new(big.Int).Sub(high, low).Cmp(big.NewInt(1)) > 0 {
			mid := new(big.Int).Rsh(new(big.Int).Add(low, high), 1)
			if new(big.Int).Exp(mid, big.NewInt(power), nil).Cmp(x) <= 0 {
				low = mid
			} else {
				high = mid
			}
		}
		return uint32(low.Uint64())
	}
	found := 0
	for p := int64(2); found < len(roots); p++ {
		if !big.NewInt(p).ProbablyPrime(20) {
			continue
		}
		if found < len(starts) && starts[found] != behind(p, 2) {
			t.Errorf("starts[%d]: %08x, want %08x", found, starts[found], behind(p, 2))
		}
		if roots[found] != behind(p, 3) {
			t.Errorf("roots[%d]: %08x, want %08x", found, roots[found], behind(p, 3))
		}
		found++
	}
}

func TestChain(t *testing.T) {
	d := Sum([]byte("abc"))
	for name, parts := range map[string][][]byte{
		"no part":             nil,
		"an empty part":       {{}},
		"up to a block's end": {some(32)},
		"just ahead of it":    {some(31)},
		"just behind it":      {some(33)},
		"the count is cut":    {some(24)},
		"many":                {some(5), nil, some(60), some(64), {}, some(1)},
	} {
		whole := append([]byte(nil), d[:]...)
		for _, p := range parts {
			whole = append(whole, p...)
		}
		want := api.Digest(sha256.Sum256(whole))
		if got := Chain(d, parts...); got != want {
			t.Errorf("Chain, %s: %s, want %s", name, Text(got), Text(want))
		}
		if got := Sum(append([][]byte{d[:]}, parts...)...); got != want {
			t.Errorf("Sum of the digest's bytes, %s: %s, want %s", name, Text(got), Text(want))
		}
	}
	if Chain(d, []byte("x")) == Chain(api.Digest{}, []byte("x")) {
		t.Error("Chain does not hang on the digest")
	}
}

// What is handed in stays as it was, and what lies behind a list's length is not read.
func TestWhatIsHandedInStays(t *testing.T) {
	for _, n := range []int{0, 1, 31, 32, 33, 55, 56, 63, 64, 65, 130} {
		whole := some(n + 200)
		list := [][]byte{whole[:n], whole[n:n], []byte("spare"), []byte("room")}
		want := api.Digest(sha256.Sum256(whole[:n]))
		if got := Sum(list[:2]...); got != want {
			t.Errorf("%d bytes with spare room: %s, want %s", n, Text(got), Text(want))
		}
		d := some(32)
		chained := api.Digest(sha256.Sum256(append(append([]byte(nil), d...), whole[:n]...)))
		if got := Chain(api.Digest(d), list[:2]...); got != chained {
			t.Errorf("Chain of %d bytes with spare room: %s, want %s", n, Text(got), Text(chained))
		}
		if !bytes.Equal(whole, some(n+200)) || string(list[2]) != "spare" || string(list[3]) != "room" || len(list[0]) != n || len(list[1]) != 0 {
			t.Errorf("%d bytes: what was handed in, or its spare room, was changed", n)
		}
	}
}

// Nothing is kept from one call to the next.
func TestSumAgain(t *testing.T) {
	first := Sum(some(70))
	Sum(some(3))
	Chain(first, some(200))
	if Sum(some(70)) != first {
		t.Error("one list of bytes has two digests")
	}
}

// P3.2

func TestShare(t *testing.T) {
	d := Sum([]byte("abc"))
	const seven = 0xba7816bf8f01cf
	full := api.Digest(bytes.Repeat([]byte{255}, 32))
	eighth := api.Digest{7: 255, 8: 255, 31: 255}
	for _, x := range []struct {
		name string
		d    api.Digest
		n    int
		want int
	}{
		{"10", d, 10, seven % 10},
		{"1", d, 1, 0},
		{"2", d, 2, 1},
		{"256", d, 256, 0xcf},
		{"a power of two", d, 1 << 48, seven & (1<<48 - 1)},
		{"the number", d, seven, 0},
		{"one above the number", d, seven + 1, seven},
		{"the greatest int", d, math.MaxInt, seven},
		{"no digest", api.Digest{}, 5, 0},
		{"full by 2^56", full, 1 << 56, 1<<56 - 1},
		{"full by 2^56 - 1", full, 1<<56 - 1, 0},
		{"full by 1000", full, 1000, (1<<56 - 1) % 1000},
		{"the eighth byte counts for nothing", eighth, 1000, 0},
		{"the seventh byte is the lowest", api.Digest{6: 5}, 1000, 5},
		{"the first byte is the highest", api.Digest{0: 1}, math.MaxInt, 1 << 48},
		{"0", d, 0, 0},
		{"-1", d, -1, 0},
		{"-10", d, -10, 0},
		{"the least int", d, math.MinInt, 0},
	} {
		if got := Share(x.d, x.n); got != x.want {
			t.Errorf("Share, %s: %d, want %d", x.name, got, x.want)
		}
	}
}

func TestLess(t *testing.T) {
	for i := range 32 {
		low, high := Sum([]byte("x")), Sum([]byte("x"))
		low[i], high[i] = 127, 128 // a sign is none
		for j := i + 1; j < 32; j++ {
			low[j], high[j] = 255, 0 // the first unlike bytes decide
		}
		if !Less(low, high) || Less(high, low) {
			t.Errorf("unlike from byte %d on: %v, %v", i, Less(low, high), Less(high, low))
		}
		if Less(low, low) || Less(high, high) {
			t.Errorf("byte %d: one is less than itself", i)
		}
	}
	if Less(api.Digest{}, api.Digest{}) || !Less(api.Digest{}, api.Digest{31: 1}) {
		t.Error("zeros")
	}
}

// P3.3

func TestText(t *testing.T) {
	for i := range 256 {
		d := api.Digest{0: byte(i), 31: byte(255 - i)}
		const digits = "0123456789abcdef"
		want := string([]byte{digits[i/16], digits[i%16]}) + strings.Repeat("00", 30) + string([]byte{digits[(255-i)/16], digits[(255-i)%16]})
		if got := Text(d); got != want {
			t.Errorf("Text: %s, want %s", got, want)
		}
		if back, err := Parse(want); back != d || err != api.OK {
			t.Errorf("Parse(%s): %x, %d", want, back, int(err))
		}
	}
	if got := Text(api.Digest{}); got != strings.Repeat("0", 64) {
		t.Errorf("Text of no digest: %s", got)
	}
}

func TestParseOfWhatIsNoText(t *testing.T) {
	good := Text(Sum([]byte("abc")))
	wrong := []string{"", "b", "ba", good[:62], good[:63], good[1:], good + "0", good + "00", good + good, " " + good, good + "\n", "0x" + good[2:], strings.ToUpper(good), strings.Repeat("A", 64), strings.Repeat("G", 64), strings.Repeat("\u00e4", 32), strings.Repeat("\x00", 64)}
	for c := range 256 {
		if strings.IndexByte("0123456789abcdef", byte(c)) >= 0 {
			continue
		}
		for _, at := range []int{0, 1, 30, 31, 62, 63} {
			wrong = append(wrong, good[:at]+string([]byte{byte(c)})+good[at+1:])
		}
	}
	for _, s := range wrong {
		if d, err := Parse(s); err != api.ErrForm || d != (api.Digest{}) {
			t.Errorf("Parse(%q): %x, %d; want no digest and ErrForm", s, d, int(err))
		}
	}
}

// P3.4

func TestCuts(t *testing.T) {
	b := some(260)
	want := api.Digest(sha256.Sum256(b))
	for i := 0; i <= len(b); i++ {
		if got := Sum(b[:i], b[i:]); got != want {
			t.Errorf("cut at %d: %s, want %s", i, Text(got), Text(want))
		}
		for _, j := range []int{i, i + 1, i + 7, i + 8, i + 9, i + 63, i + 64, i + 65, i + 128} {
			if j > len(b) {
				continue
			}
			if got := Sum(nil, b[:i], []byte{}, b[i:j], nil, b[j:], nil); got != want {
				t.Errorf("cut at %d and %d: %s, want %s", i, j, Text(got), Text(want))
			}
		}
	}
	for _, step := range []int{1, 2, 3, 7, 8, 55, 56, 63, 64, 65, 119, 128, 129} {
		var parts [][]byte
		for at := 0; at < len(b); at += step {
			parts = append(parts, b[at:min(at+step, len(b))])
		}
		if got := Sum(parts...); got != want {
			t.Errorf("parts of %d: %s, want %s", step, Text(got), Text(want))
		}
		if Chain(want, parts...) != Chain(want, b) {
			t.Errorf("Chain, parts of %d: unlike that of one part", step)
		}
	}
}

// P3.5

func TestOrder(t *testing.T) {
	all := []api.Digest{{}, {0: 1}, {0: 0x0f}, {0: 0x10}, {0: 0x9f}, {0: 0xa0}, {0: 0xff}, {31: 1}, {31: 0x9a}, {31: 0xa9}, {15: 128}}
	for i := range 60 {
		all = append(all, Sum(some(i)))
	}
	for _, a := range all {
		for _, b := range all {
			if got, want := Less(a, b), Text(a) < Text(b); got != want {
				t.Errorf("Less(%s, %s): %v, their texts say %v", Text(a), Text(b), got, want)
			}
			if a != b && Less(a, b) == Less(b, a) {
				t.Errorf("of %s and %s not just one is less", Text(a), Text(b))
			}
			if a == b && Less(a, b) {
				t.Errorf("%s is less than itself", Text(a))
			}
		}
	}
}
