package seal

import (
	"bytes"
	"crypto/hmac"
	"crypto/sha256"
	"math"
	"strings"
	"testing"

	"raddle/api"
	"raddle/digest"
	"raddle/tally"
)

// some makes n bytes that are unlike their neighbours.
func some(n int) []byte {
	b := make([]byte, n)
	for i := range b {
		b[i] = byte(i*211 + i>>8 + 7)
	}
	return b
}

// known is the mac as the library makes it.
func known(key, b []byte) api.Digest {
	h := hmac.New(sha256.New, key)
	h.Write(b)
	return api.Digest(h.Sum(nil))
}

// keyOf is an identity's key by the document's words.
func keyOf(seed string, id int) []byte {
	d := sha256.Sum256(tally.Put(tally.PutText(nil, seed), id))
	return d[:]
}

// tagOf is an identity's tag by the document's words.
func tagOf(seed string, id int, body string) api.Tag {
	mac := known(keyOf(seed, id), []byte(body))
	return api.Tag(mac[:16])
}

// P4.1

func TestMacOfWhatIsWellKnown(t *testing.T) {
	repeat := func(b byte, n int) []byte { return bytes.Repeat([]byte{b}, n) }
	for _, x := range []struct {
		key        []byte
		body, want string
	}{
		{repeat(0x0b, 20), "Hi There", "b0344c61d8db38535ca8afceaf0bf12b881dc200c9833da726e9376c2e32cff7"},
		{[]byte("Jefe"), "what do ya want for nothing?", "5bdcc146bf60754e6a042426089575c75a003f089d2739839dec58b964ec3843"},
		{repeat(0xaa, 20), string(repeat(0xdd, 50)), "773ea91e36800e46854db8ebd09181a72959098b3ef8c122d9635514ced565fe"},
		{repeat(0xaa, 131), "Test Using Larger Than Block-Size Key - Hash Key First", "60e431591ee0b67f0d8a26aacbf5b77f8e0bc6213728c5140546040f0ee37f54"},
		{nil, "", "b613679a0814d9ec772f95d778c35fc5ff1697c493715653c6c712144292c5ad"},
	} {
		if got := digest.Text(Mac(x.key, []byte(x.body))); got != x.want {
			t.Errorf("Mac of %q by %d bytes: %s, want %s", x.body, len(x.key), got, x.want)
		}
	}
}

func TestMacOfEachKey(t *testing.T) {
	for _, k := range []int{0, 1, 31, 32, 33, 63, 64, 65, 66, 127, 128, 129, 1000} {
		for _, n := range []int{0, 1, 55, 56, 63, 64, 65, 120, 300} {
			if got, want := Mac(some(k), some(n)), known(some(k), some(n)); got != want {
				t.Errorf("Mac of %d bytes by %d: %s, want %s", n, k, digest.Text(got), digest.Text(want))
			}
		}
	}
}

func TestMacOfKeysThatAreFilled(t *testing.T) {
	// A key is filled with bytes 0, so one that ends with them is the same; one beyond a block is its digest.
	short := some(10)
	if Mac(short, some(5)) != Mac(append(some(10), 0, 0, 0), some(5)) {
		t.Error("a key is not filled with bytes 0")
	}
	long := some(65)
	d := digest.Sum(long)
	if Mac(long, some(5)) != Mac(d[:], some(5)) {
		t.Error("a long key is not its digest")
	}
	whole := some(64)
	d = digest.Sum(whole)
	if Mac(whole, some(5)) == Mac(d[:], some(5)) {
		t.Error("a key of just a block goes by its digest")
	}
}

func TestMacOfParts(t *testing.T) {
	key, b := some(32), some(150)
	want := known(key, b)
	for i := range 150 {
		if got := Mac(key, b[:i], nil, b[i:], []byte{}); got != want {
			t.Errorf("cut at %d: %s, want %s", i, digest.Text(got), digest.Text(want))
		}
	}
	nothing := known(key, nil)
	for name, got := range map[string]api.Digest{
		"no part":       Mac(key),
		"a nil list":    Mac(key, [][]byte(nil)...),
		"a nil part":    Mac(key, nil),
		"an empty part": Mac(key, []byte{}),
		"empty parts":   Mac(key, nil, []byte{}, nil),
	} {
		if got != nothing {
			t.Errorf("%s: %s, want %s", name, digest.Text(got), digest.Text(nothing))
		}
	}
}

func TestWhatIsHandedInStays(t *testing.T) {
	for _, k := range []int{0, 20, 63, 64, 65, 100} {
		key, body := some(k+100), some(300)
		parts := [][]byte{body[:30], body[30:31], []byte("spare"), []byte("room")}
		if got, want := Mac(key[:k], parts[:2]...), known(some(k), some(31)); got != want {
			t.Errorf("a key of %d bytes with spare room: %s, want %s", k, digest.Text(got), digest.Text(want))
		}
		if !bytes.Equal(key, some(k+100)) {
			t.Errorf("a key of %d bytes, or its spare room, was changed", k)
		}
		if !bytes.Equal(body, some(300)) || len(parts[0]) != 30 || len(parts[1]) != 1 || string(parts[2]) != "spare" || string(parts[3]) != "room" {
			t.Errorf("with a key of %d bytes: the parts, or their spare room, were changed", k)
		}
	}
}

// P4.2

func TestDerive(t *testing.T) {
	long := strings.Repeat("x", api.MaxData)
	for _, x := range []struct {
		name, seed string
		n          int
		made       bool
	}{
		{"one", "s", 1, true},
		{"no seed", "", 4, true},
		{"most", "s", 4096, true},
		{"a seed of MaxData bytes", long, 2, true},
		{"bytes of any kind", "\x00\xff\x80", 3, true},
		{"0", "s", 0, false},
		{"-1", "s", -1, false},
		{"the least int", "s", math.MinInt, false},
		{"one beyond", "s", 4097, false},
		{"the greatest int", "s", math.MaxInt, false},
		{"a seed of one byte more", long + "x", 1, false},
		{"a seed of few signs and many bytes", strings.Repeat("\u20ac", 22), 1, false},
		{"both", long + "x", 0, false},
	} {
		k := Derive(x.seed, x.n)
		if (k != nil) != x.made {
			t.Errorf("%s: made %v, want %v", x.name, k != nil, x.made)
			continue
		}
		if !x.made {
			continue
		}
		if k.Len() != x.n {
			t.Errorf("%s: Len %d, want %d", x.name, k.Len(), x.n)
		}
		for _, id := range []int{0, x.n / 2, x.n - 1} {
			if got, err := k.Sign(id, "body"); got != tagOf(x.seed, id, "body") || err != api.OK {
				t.Errorf("%s: Sign(%d): %x, %d; want %x", x.name, id, got, int(err), tagOf(x.seed, id, "body"))
			}
		}
	}
}

func TestKeysOfUnlikeSeeds(t *testing.T) {
	a, b := Derive("a", 300), Derive("b", 300)
	first, _ := a.Sign(0, "body")
	second, _ := b.Sign(0, "body")
	if first == second {
		t.Error("two seeds have one key")
	}
	// More identities leave the keys of the first ones as they are, and the same seed makes the same ones.
	few := Derive("a", 3)
	for id := range 3 {
		x, _ := a.Sign(id, "body")
		if y, err := few.Sign(id, "body"); x != y || err != api.OK {
			t.Errorf("identity %d has another key among 3 than among 300", id)
		}
	}
}

// P4.3

func TestSign(t *testing.T) {
	k := Derive("seed", 260)
	for _, id := range []int{0, 1, 2, 255, 256, 259} {
		for _, body := range []string{"", "a", "body", "\x00\xff", string(some(64)), string(some(1000))} {
			want := tagOf("seed", id, body)
			if got, err := k.Sign(id, body); got != want || err != api.OK {
				t.Errorf("Sign(%d, %d bytes): %x, %d; want %x", id, len(body), got, int(err), want)
			}
			if !k.Check(id, body, want) {
				t.Errorf("Check(%d, %d bytes) does not take the tag", id, len(body))
			}
		}
	}
}

func TestIdsThatAreNone(t *testing.T) {
	for _, n := range []int{1, 4, 4096} {
		k := Derive("seed", n)
		for _, id := range []int{-1, n, n + 1, math.MinInt, math.MaxInt} {
			if tag, err := k.Sign(id, "body"); err != api.ErrArg || tag != (api.Tag{}) {
				t.Errorf("of %d: Sign(%d): %x, %d; want ErrArg", n, id, tag, int(err))
			}
			if k.Check(id, "body", api.Tag{}) {
				t.Errorf("of %d: Check(%d) takes a zero tag", n, id)
			}
			if id == n && n < 4096 && k.Check(id, "body", tagOf("seed", id, "body")) {
				t.Errorf("of %d: Check(%d) takes what that identity would sign", n, id)
			}
		}
		if k.Len() != n {
			t.Errorf("behind wrong calls: Len %d, want %d", k.Len(), n)
		}
		if tag, err := k.Sign(n-1, "body"); err != api.OK || tag != tagOf("seed", n-1, "body") {
			t.Errorf("behind wrong calls: Sign(%d): %x, %d", n-1, tag, int(err))
		}
	}
}

func TestKeysThatNoCallMade(t *testing.T) {
	var none *Keys
	for name, k := range map[string]*Keys{"nil": none, "plain": {}} {
		if k.Len() != 0 {
			t.Errorf("%s: Len %d, want 0", name, k.Len())
		}
		for _, id := range []int{-1, 0, 1, math.MaxInt} {
			if tag, err := k.Sign(id, "body"); err != api.ErrNil || tag != (api.Tag{}) {
				t.Errorf("%s: Sign(%d): %x, %d; want ErrNil", name, id, tag, int(err))
			}
			if k.Check(id, "body", api.Tag{}) {
				t.Errorf("%s: Check(%d) takes a zero tag", name, id)
			}
		}
	}
}

// P4.4

func TestOwn(t *testing.T) {
	k := Derive("seed", 5)
	for id := range 5 {
		for _, body := range []string{"", "body", string(some(100))} {
			tag, err := k.Sign(id, body)
			if err != api.OK || !k.Check(id, body, tag) {
				t.Errorf("identity %d: its own tag of %d bytes is not taken", id, len(body))
			}
			for i := range tag {
				for _, with := range []byte{1, 0x80, 0xff} {
					other := tag
					other[i] ^= with
					if k.Check(id, body, other) {
						t.Errorf("identity %d: a tag with another byte %d is taken", id, i)
					}
				}
			}
			if k.Check(id, body, api.Tag{}) {
				t.Errorf("identity %d: a zero tag is taken", id)
			}
		}
	}
}

// P4.5

func TestApart(t *testing.T) {
	k := Derive("seed", 260)
	bodies := []string{"", "\x00", "\x00\x00", "a", "b", "ab", "body", "bodx", string(some(63)), string(some(64)), string(some(65))}
	seen := map[api.Tag]string{}
	for _, id := range []int{0, 1, 2, 3, 254, 255, 256, 257, 259} {
		for _, body := range bodies {
			tag, err := k.Sign(id, body)
			if err != api.OK {
				t.Fatalf("Sign(%d, %q): %d", id, body, int(err))
			}
			if at, ok := seen[tag]; ok {
				t.Errorf("identity %d has the tag of %q that was that of %q", id, body, at)
			}
			seen[tag] = body
			if k.Check((id+1)%260, body, tag) || k.Check(id, body+"x", tag) {
				t.Errorf("identity %d: its tag of %q is taken for another's, or another body's", id, body)
			}
		}
	}
}
