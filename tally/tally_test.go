package tally

import (
	"bytes"
	"math"
	"slices"
	"strings"
	"testing"

	"raddle/api"
)

// numbers are 0, each power of two with its neighbours, and the greatest int, in rising order.
func numbers() []int {
	out := []int{0}
	for i := range 63 {
		p := 1 << i
		out = append(out, p-1, p, p+1)
	}
	out = append(out, math.MaxInt-1, math.MaxInt)
	slices.Sort(out)
	return slices.Compact(out)
}

func texts() []string {
	out := []string{"", "a", "\x00", "abc", "\xff\xfe", "z\u00e4hl\u20ac"}
	for _, n := range []int{127, 128, 255, 256, 257, 65535, 65536} {
		out = append(out, strings.Repeat("x", n))
	}
	return out
}

// mustStay fails where a reader has not that error, or reads on in spite of it.
func mustStay(t *testing.T, name string, r *Reader, want api.Errno) {
	t.Helper()
	for range 2 {
		if r.Err() != want || r.Done() != want || r.Left() != 0 {
			t.Errorf("%s: Err %d, Done %d, Left %d; want error %d", name, int(r.Err()), int(r.Done()), r.Left(), int(want))
		}
		if n := r.Num(math.MaxInt); n != 0 {
			t.Errorf("%s: Num answers %d in spite of the error", name, n)
		}
		if n := r.Num(-1); n != 0 {
			t.Errorf("%s: Num(-1) answers %d in spite of the error", name, n)
		}
		if s := r.Text(math.MaxInt); s != "" {
			t.Errorf("%s: Text answers %q in spite of the error", name, s)
		}
		for _, n := range []int{-1, 0, 1, math.MaxInt} {
			if b := r.Raw(n); len(b) != 0 {
				t.Errorf("%s: Raw(%d) answers %x in spite of the error", name, n, b)
			}
		}
	}
}

// P1.1

func TestPutAndSize(t *testing.T) {
	for _, x := range []struct {
		n    int
		want string
	}{
		{0, "\x00"},
		{1, "\x01\x01"},
		{255, "\x01\xff"},
		{256, "\x02\x01\x00"},
		{65535, "\x02\xff\xff"},
		{65536, "\x03\x01\x00\x00"},
		{1<<40 + 5, "\x06\x01\x00\x00\x00\x00\x05"},
		{1<<56 - 1, "\x07\xff\xff\xff\xff\xff\xff\xff"},
		{1 << 56, "\x08\x01\x00\x00\x00\x00\x00\x00\x00"},
		{math.MaxInt, "\x08\x7f\xff\xff\xff\xff\xff\xff\xff"},
		{-1, ""},
		{math.MinInt, ""},
	} {
		if got := string(Put(nil, x.n)); got != x.want {
			t.Errorf("Put(nil, %d): %x, want %x", x.n, got, x.want)
		}
		if got := string(Put([]byte("ab"), x.n)); got != "ab"+x.want {
			t.Errorf("Put(ab, %d): %x, want %x behind ab", x.n, got, x.want)
		}
		if got := Size(x.n); got != len(x.want) {
			t.Errorf("Size(%d): %d, want %d", x.n, got, len(x.want))
		}
	}
}

func TestPutText(t *testing.T) {
	for _, x := range []struct{ s, want string }{
		{"", "\x00"},
		{"abc", "\x01\x03abc"},
		{"\x00\xff", "\x01\x02\x00\xff"},
		{strings.Repeat("q", 256), "\x02\x01\x00" + strings.Repeat("q", 256)},
	} {
		if got := string(PutText(nil, x.s)); got != x.want {
			t.Errorf("PutText(nil, %q): %x, want %x", x.s, got, x.want)
		}
		if got := string(PutText([]byte{9}, x.s)); got != "\x09"+x.want {
			t.Errorf("PutText(09, %q): %x, want %x behind 09", x.s, got, x.want)
		}
	}
}

// The spare room of what is handed in may be another's, and what is handed out is the caller's own.
func TestPutMakesNewMemory(t *testing.T) {
	calls := map[string]func(b []byte) []byte{
		"Put 0":       func(b []byte) []byte { return Put(b, 0) },
		"Put 70000":   func(b []byte) []byte { return Put(b, 70000) },
		"Put -1":      func(b []byte) []byte { return Put(b, -1) },
		"PutText abc": func(b []byte) []byte { return PutText(b, "abc") },
		"PutText":     func(b []byte) []byte { return PutText(b, "") },
	}
	for name, call := range calls {
		whole := []byte("0123456789abcdef")
		b := whole[:4]
		first := call(b)
		second := call(b)
		kept := string(second)
		for i := range first {
			first[i] = '#'
		}
		if string(whole) != "0123456789abcdef" {
			t.Errorf("%s: what was handed in is now %q", name, whole)
		}
		if string(second) != kept {
			t.Errorf("%s: two answers share memory", name)
		}
		if !bytes.HasPrefix(second, []byte("0123")) {
			t.Errorf("%s: %q does not begin with what was handed in", name, second)
		}
	}
}

// P1.2

func TestReadGoesOnBehindWhatWasRead(t *testing.T) {
	b := append(Put(PutText(Put(nil, 7), "abc"), 0), 1, 2, 3)
	r := Read(b)
	if r.Err() != api.OK || r.Left() != len(b) {
		t.Fatalf("at the beginning: Err %d, Left %d", int(r.Err()), r.Left())
	}
	if n := r.Num(7); n != 7 {
		t.Errorf("Num: %d, want 7", n)
	}
	if s := r.Text(3); s != "abc" {
		t.Errorf("Text: %q, want abc", s)
	}
	if n := r.Num(0); n != 0 || r.Err() != api.OK {
		t.Errorf("Num: %d, Err %d, want 0 without an error", n, int(r.Err()))
	}
	if x := r.Raw(0); len(x) != 0 || r.Left() != 3 {
		t.Errorf("Raw(0): %x, Left %d", x, r.Left())
	}
	if x := r.Raw(2); string(x) != "\x01\x02" {
		t.Errorf("Raw(2): %x", x)
	}
	if x := r.Raw(1); string(x) != "\x03" || r.Done() != api.OK {
		t.Errorf("Raw(1): %x, Done %d", x, int(r.Done()))
	}
	if x := r.Raw(0); len(x) != 0 || r.Err() != api.OK {
		t.Errorf("Raw(0) at the end: %x, Err %d", x, int(r.Err()))
	}
}

func TestNumErrors(t *testing.T) {
	const most = 300
	for _, x := range []struct {
		name, b string
		most    int
		want    api.Errno
	}{
		{"no byte", "", most, api.ErrCut},
		{"no byte goes ahead of most", "", -1, api.ErrCut},
		{"k 9", "\x09", most, api.ErrForm},
		{"k 255", "\xff", most, api.ErrForm},
		{"k 9 with all its bytes", "\x09\x01\x02\x03\x04\x05\x06\x07\x08\x09", most, api.ErrForm},
		{"k 1 without a byte", "\x01", most, api.ErrCut},
		{"k 8 with seven bytes", "\x08\x01\x01\x01\x01\x01\x01\x01", most, api.ErrCut},
		{"cut goes ahead of a leading zero", "\x02\x00", most, api.ErrCut},
		{"cut goes ahead of above the greatest int", "\x08\xff\xff", most, api.ErrCut},
		{"0 in one byte", "\x01\x00", most, api.ErrForm},
		{"leading zero", "\x02\x00\x01", most, api.ErrForm},
		{"leading zero goes ahead of most", "\x02\x00\x01", 0, api.ErrForm},
		{"eight bytes with a leading zero", "\x08\x00\xff\xff\xff\xff\xff\xff\xff", most, api.ErrForm},
		{"just above the greatest int", "\x08\x80\x00\x00\x00\x00\x00\x00\x00", most, api.ErrForm},
		{"the greatest of eight bytes", "\x08\xff\xff\xff\xff\xff\xff\xff\xff", math.MaxInt, api.ErrForm},
		{"one above most", "\x02\x01\x2d", most, api.ErrLong},
		{"0 above -1", "\x00", -1, api.ErrLong},
		{"0 above the least int", "\x00", math.MinInt, api.ErrLong},
		{"greatest int above the one below", "\x08\x7f\xff\xff\xff\xff\xff\xff\xff", math.MaxInt - 1, api.ErrLong},
	} {
		r := Read([]byte(x.b))
		if n := r.Num(x.most); n != 0 {
			t.Errorf("%s: Num answers %d", x.name, n)
		}
		mustStay(t, x.name, r, x.want)
	}
}

func TestNumAtMost(t *testing.T) {
	for _, n := range numbers() {
		r := Read(Put(nil, n))
		if got := r.Num(n); got != n || r.Done() != api.OK {
			t.Errorf("Num(%d): %d, Done %d", n, got, int(r.Done()))
		}
		r = Read(Put(nil, n))
		if got := r.Num(n - 1); got != 0 {
			t.Errorf("Num(%d) of %d: %d", n-1, n, got)
		}
		mustStay(t, "one above most", r, api.ErrLong)
	}
}

func TestTextErrors(t *testing.T) {
	for _, x := range []struct {
		name, b string
		most    int
		want    api.Errno
	}{
		{"no byte", "", 9, api.ErrCut},
		{"k 9", "\x09abc", 9, api.ErrForm},
		{"length cut", "\x02\x01", 9, api.ErrCut},
		{"length with a leading zero", "\x02\x00\x01a", 9, api.ErrForm},
		{"length above the greatest int", "\x08\x80\x00\x00\x00\x00\x00\x00\x00a", 9, api.ErrForm},
		{"form goes ahead of most", "\x01\x00", -1, api.ErrForm},
		{"longer than most", "\x01\x03\x61\x62\x63", 2, api.ErrLong},
		{"long goes ahead of cut", "\x01\x03ab", 2, api.ErrLong},
		{"no text is as short as -1", "\x00", -1, api.ErrLong},
		{"fewer follow", "\x01\x03ab", 3, api.ErrCut},
		{"none follow", "\x01\x01", math.MaxInt, api.ErrCut},
		{"the longest, none follow", "\x08\x7f\xff\xff\xff\xff\xff\xff\xff", math.MaxInt, api.ErrCut},
	} {
		r := Read([]byte(x.b))
		if s := r.Text(x.most); s != "" {
			t.Errorf("%s: Text answers %q", x.name, s)
		}
		mustStay(t, x.name, r, x.want)
	}
}

func TestTextAtMost(t *testing.T) {
	for _, s := range texts() {
		r := Read(append(PutText(nil, s), 5))
		if got := r.Text(len(s)); got != s || r.Left() != 1 {
			t.Errorf("a text of %d bytes: %d bytes come back, Left %d", len(s), len(got), r.Left())
		}
	}
}

func TestRawErrors(t *testing.T) {
	for _, x := range []struct {
		name, b string
		n       int
		want    api.Errno
	}{
		{"below 0", "ab", -1, api.ErrArg},
		{"the least int", "ab", math.MinInt, api.ErrArg},
		{"below 0 of nothing", "", -1, api.ErrArg},
		{"one too many", "ab", 3, api.ErrCut},
		{"one of nothing", "", 1, api.ErrCut},
		{"the greatest int", "ab", math.MaxInt, api.ErrCut},
	} {
		r := Read([]byte(x.b))
		if b := r.Raw(x.n); len(b) != 0 {
			t.Errorf("%s: Raw answers %x", x.name, b)
		}
		mustStay(t, x.name, r, x.want)
	}
}

func TestErrorBehindWhatWasRead(t *testing.T) {
	r := Read([]byte("\x01\x07\x01\x00\x01\x05"))
	if n := r.Num(9); n != 7 {
		t.Fatalf("Num: %d, want 7", n)
	}
	if n := r.Num(9); n != 0 {
		t.Errorf("Num: %d, want 0", n)
	}
	mustStay(t, "behind a number", r, api.ErrForm)
}

func TestReaderKeepsItsOwnBytes(t *testing.T) {
	whole := []byte("\x01\x03abcdef\x00\x00\x00")
	b := whole[:8]
	r := Read(b)
	for i := range whole {
		whole[i] = '#'
	}
	if s := r.Text(3); s != "abc" {
		t.Errorf("Text: %q, want abc", s)
	}
	first := r.Raw(1)
	first[0] = '#'
	_ = append(first, "##"...)
	if x := r.Raw(2); string(x) != "ef" {
		t.Errorf("Raw: %q, want ef", x)
	}
	if r.Done() != api.OK {
		t.Errorf("Done: %d: what lies behind the list's length was read", int(r.Done()))
	}
}

func TestReadLeavesItsArgument(t *testing.T) {
	whole := []byte("\x01\x03abcdef012")
	r := Read(whole[:8])
	r.Text(3)
	x := r.Raw(3)
	for i := range x {
		x[i] = '#'
	}
	_ = append(x, "###"...)
	if string(whole) != "\x01\x03abcdef012" {
		t.Errorf("what was handed in is now %q", whole)
	}
}

// P1.3

func TestLeftAndDone(t *testing.T) {
	r := Read([]byte("abc"))
	for left := 3; left > 0; left-- {
		for range 2 {
			if r.Left() != left || r.Done() != api.ErrMore || r.Err() != api.OK {
				t.Errorf("with %d left: Left %d, Done %d, Err %d", left, r.Left(), int(r.Done()), int(r.Err()))
			}
		}
		r.Raw(1)
	}
	if r.Left() != 0 || r.Done() != api.OK || r.Err() != api.OK {
		t.Errorf("at the end: Left %d, Done %d, Err %d", r.Left(), int(r.Done()), int(r.Err()))
	}
	for _, b := range [][]byte{nil, {}} {
		r := Read(b)
		if r.Left() != 0 || r.Done() != api.OK || r.Err() != api.OK {
			t.Errorf("of nothing: Left %d, Done %d, Err %d", r.Left(), int(r.Done()), int(r.Err()))
		}
	}
}

func TestReaderThatNoCallMade(t *testing.T) {
	var none *Reader
	mustStay(t, "nil", none, api.ErrNil)
	mustStay(t, "plain", &Reader{}, api.ErrNil)
}

// P1.4

func TestWhatWasPutComesBack(t *testing.T) {
	var b []byte
	for _, n := range numbers() {
		b = append(Put(b, n), 0xa5)
	}
	for _, s := range texts() {
		b = append(PutText(b, s), 0x5a)
	}
	r := Read(b)
	for _, n := range numbers() {
		if got := r.Num(math.MaxInt); got != n {
			t.Fatalf("%d comes back as %d", n, got)
		}
		if x := r.Raw(1); string(x) != "\xa5" {
			t.Fatalf("behind %d stands %x", n, x)
		}
	}
	for _, s := range texts() {
		if got := r.Text(math.MaxInt); got != s {
			t.Fatalf("a text of %d bytes comes back as one of %d", len(s), len(got))
		}
		if x := r.Raw(1); string(x) != "\x5a" {
			t.Fatalf("behind a text of %d bytes stands %x", len(s), x)
		}
	}
	if r.Done() != api.OK {
		t.Errorf("Done: %d", int(r.Done()))
	}
}

// P1.5

func TestOneForm(t *testing.T) {
	check := func(b []byte) {
		r := Read(b)
		n := r.Num(math.MaxInt)
		if r.Err() != api.OK {
			return
		}
		read := b[:len(b)-r.Left()]
		if again := Put(nil, n); !bytes.Equal(again, read) || Size(n) != len(read) {
			t.Errorf("%x is read as %d, which is put as %x, of Size %d", read, n, again, Size(n))
		}
	}
	for k := range 256 {
		for first := range 256 {
			check([]byte{byte(k), byte(first)})
			check([]byte{byte(k), byte(first), 0, 1, 2, 3, 4, 5, 6, 7, 8})
			check([]byte{byte(k), 0, byte(first), 255, 255, 255, 255, 255, 255, 255})
		}
	}
}

// P1.6

func TestLesserNumbersHaveLesserBytes(t *testing.T) {
	all := numbers()
	for i, low := range all {
		for _, high := range all[i+1:] {
			if bytes.Compare(Put(nil, low), Put(nil, high)) >= 0 {
				t.Errorf("%d is below %d, its bytes are not", low, high)
			}
		}
	}
}
