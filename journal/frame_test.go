package journal

import (
	"bytes"
	"slices"
	"strings"
	"testing"

	"raddle/api"
)

// number is a number's bytes, by the words of tally's chapter.
func number(n int) string {
	s := ""
	for ; n > 0; n >>= 8 {
		s = string([]byte{byte(n)}) + s
	}
	return string([]byte{byte(len(s))}) + s
}

// sumBy is a check sum, by the words of crc24's chapter.
func sumBy(s string) int {
	sum := 0xb704ce
	for i := range len(s) {
		sum ^= int(s[i]) << 16
		for range 8 {
			sum <<= 1
			if sum >= 1<<24 {
				sum = sum&(1<<24-1) ^ 0x864cfb
			}
		}
	}
	return sum
}

// summed is bytes with their sum ahead of them.
func summed(s string) string {
	sum := sumBy(s)
	return string([]byte{byte(sum >> 16), byte(sum >> 8), byte(sum)}) + s
}

// frame is a frame, by the chapter's words.
func frame(kind byte, rec string) string {
	return summed(string([]byte{kind}) + number(len(rec)) + rec)
}

func turnFrame(n int) string {
	return frame('G', number(n))
}

// dashed is a list of records as one text.
func dashed(l [][]byte) string {
	return string(bytes.Join(append(slices.Clone(l), nil), []byte("-")))
}

// chances tells numbers below others, always the same ones of one beginning.
func chances(x uint64) func(n int) int {
	return func(n int) int {
		x = x*6364136223846793005 + 1442695040888963407
		return int(x>>33) % n
	}
}

// frames fails where bytes have not those frames.
func frames(t *testing.T, name, b, kinds, recs string) {
	t.Helper()
	k, l := Frames([]byte(b))
	if string(k) != kinds || dashed(l) != recs || len(k) != len(l) {
		t.Errorf("%s: kinds %q, records %q; want %q, %q", name, k, dashed(l), kinds, recs)
	}
}

// P16.1, Frame

func TestFrame(t *testing.T) {
	for _, kind := range []byte{'D', 'G', 'x', 0, 255} {
		for _, rec := range []string{"", "a", "abc", "\x00\xff", strings.Repeat("r", 255), strings.Repeat("s", 256), strings.Repeat("t", 70000)} {
			if got := string(Frame(kind, []byte(rec))); got != frame(kind, rec) {
				t.Errorf("Frame(%d, %d bytes): %.40x, want %.40x", kind, len(rec), got, frame(kind, rec))
			}
		}
	}
	if got := string(Frame('D', nil)); got != frame('D', "") {
		t.Errorf("Frame of nil: %x", got)
	}
	if got, want := string(Frame('D', []byte("r"))[3:]), "D\x01\x01r"; got != want {
		t.Errorf("behind the sum stands %q, want %q", got, want)
	}
}

// The frame alone does not ask how long a record may be.
func TestFrameOfMuch(t *testing.T) {
	rec := strings.Repeat("m", api.MaxRecord+1)
	if got := string(Frame('D', []byte(rec))); got != frame('D', rec) {
		t.Errorf("%d bytes", len(got))
	}
}

func TestFrameMemory(t *testing.T) {
	whole := []byte("abcdef")
	first, second := Frame('D', whole[:3]), Frame('D', whole[:3])
	for i := range first {
		first[i] = '#'
	}
	if string(whole) != "abcdef" || string(second) != frame('D', "abc") {
		t.Errorf("%q, %q", whole, second)
	}
}

// P16.1, Frames

func TestFrames(t *testing.T) {
	frames(t, "nothing", "", "", "")
	frames(t, "one", frame('D', "r"), "D", "r-")
	frames(t, "an empty one", frame('D', ""), "D", "-")
	frames(t, "a turn", turnFrame(7), "G", "\x01\x07-")
	frames(t, "many", frame('D', "a")+frame('D', "")+turnFrame(1)+frame('D', "b")+turnFrame(300), "DDGDG", "a--\x01\x01-b-\x02\x01\x2c-")
	frames(t, "a frame in a frame", frame('D', frame('D', "in")), "D", frame('D', "in")+"-")
	frames(t, "junk ahead", "x"+frame('D', "a"), "", "")
	frames(t, "junk behind", frame('D', "a")+"xyz", "D", "a-")
	frames(t, "junk between", frame('D', "a")+"x"+frame('D', "b"), "D", "a-")
	frames(t, "zeros", strings.Repeat("\x00", 100), "", "")
	if k, l := Frames(nil); len(k) != 0 || len(l) != 0 {
		t.Errorf("of nil: %q, %q", k, l)
	}
}

func TestFramesKinds(t *testing.T) {
	for kind := range 256 {
		b := frame('D', "a") + frame(byte(kind), "\x01\x05") + frame('D', "b")
		if kind == 'D' || kind == 'G' {
			frames(t, "a kind", b, "D"+string(rune(kind))+"D", "a-\x01\x05-b-")
		} else {
			frames(t, "no kind", b, "D", "a-")
		}
	}
}

func TestFramesTurns(t *testing.T) {
	for _, n := range []int{1, 2, 255, 256, 1 << 20, api.MaxNum - 1, api.MaxNum} {
		frames(t, "a turn", turnFrame(n)+frame('D', "b"), "GD", number(n)+"-b-")
	}
	for name, rec := range map[string]string{
		"nothing":               "",
		"0":                     number(0),
		"one above the most":    number(api.MaxNum + 1),
		"the greatest int":      number(1<<63 - 1),
		"above all ints":        "\x08\x80\x00\x00\x00\x00\x00\x00\x00",
		"cut":                   "\x02\x01",
		"in two bytes":          "\x02\x00\x01",
		"0 in one byte":         "\x01\x00",
		"nine bytes":            "\x09\x01\x01\x01\x01\x01\x01\x01\x01\x01",
		"with a byte behind it": number(7) + "\x00",
		"two numbers":           number(7) + number(8),
	} {
		frames(t, name, frame('D', "a")+frame('G', rec)+frame('D', "b"), "D", "a-")
		frames(t, name+", as a record", frame('D', "a")+frame('D', rec)+frame('D', "b"), "DDD", "a-"+rec+"-b-")
	}
}

// A length in another form than tally's, with the right sum, is no frame.
func TestFramesForms(t *testing.T) {
	for name, b := range map[string]string{
		"a leading zero":      summed("D\x02\x00\x01a"),
		"0 in a byte":         summed("D\x01\x00"),
		"nine bytes":          summed("D\x09\x00\x00\x00\x00\x00\x00\x00\x00\x01a"),
		"above all ints":      summed("D\x08\xff\xff\xff\xff\xff\xff\xff\xffa"),
		"the greatest int":    summed("D\x08\x7f\xff\xff\xff\xff\xff\xff\xffa"),
		"longer than is left": summed("D\x01\x02a"),
		"no length":           summed("D"),
		"no kind":             summed(""),
	} {
		frames(t, name, b, "", "")
		frames(t, name, frame('D', "a")+b, "D", "a-")
	}
	frames(t, "shorter than what is summed", summed("D\x01\x01ab"), "", "")
}

func TestFramesLongRecords(t *testing.T) {
	for _, n := range []int{api.MaxRecord - 1, api.MaxRecord} {
		rec := strings.Repeat("q", n)
		frames(t, "not too long", frame('D', rec)+frame('D', "b"), "DD", rec+"-b-")
	}
	frames(t, "too long", frame('D', "a")+frame('D', strings.Repeat("q", api.MaxRecord+1))+frame('D', "b"), "D", "a-")
}

func TestFramesCut(t *testing.T) {
	parts := []string{frame('D', "first"), turnFrame(9), frame('D', ""), frame('D', strings.Repeat("l", 300))}
	kinds, recs := "DGDD", []string{"first", number(9), "", strings.Repeat("l", 300)}
	whole := strings.Join(parts, "")
	for n := range len(whole) + 1 {
		many, end := 0, 0
		for many < len(parts) && end+len(parts[many]) <= n {
			end += len(parts[many])
			many++
		}
		want := ""
		for _, rec := range recs[:many] {
			want += rec + "-"
		}
		frames(t, "cut", whole[:n], kinds[:many], want)
	}
}

// With one bit turned about the frame that has it, and all behind it, are none.
func TestFramesTurnedBits(t *testing.T) {
	first, second := frame('D', "abc"), frame('D', "d")
	for at := range 8 * len(first) {
		b := []byte(second + first + second)
		b[len(second)+at/8] ^= 1 << (at % 8)
		frames(t, "a bit", string(b), "D", "d-")
	}
}

func TestFramesMemory(t *testing.T) {
	whole := []byte(frame('D', "abc") + frame('D', "def") + "spare")
	b := whole[:len(whole)-5]
	kept := string(whole)
	k, l := Frames(b)
	_, again := Frames(b)
	_, _ = append(k, 'x'), append(l[0], 'x')
	copy(l[0], "###")
	if string(whole) != kept {
		t.Errorf("what was handed in is now %q", whole)
	}
	if dashed(l) != "###-def-" || dashed(again) != "abc-def-" {
		t.Errorf("answers share memory: %q, %q", dashed(l), dashed(again))
	}
	copy(whole, strings.Repeat("!", len(whole)))
	if dashed(again) != "abc-def-" {
		t.Errorf("the answer shares memory with what was handed in: %q", dashed(again))
	}
}

// Frames are not looked for behind the bytes' length.
func TestFramesSpareRoom(t *testing.T) {
	whole := []byte(frame('D', "abc") + frame('D', "def"))
	frames(t, "half", string(whole[:len(whole)/2]), "D", "abc-")
	if k, _ := Frames(whole[:len(whole)/2]); len(k) != 1 {
		t.Errorf("%q", k)
	}
	if k, _ := Frames(whole[:len(whole)-1]); len(k) != 1 {
		t.Errorf("%q", k)
	}
}

// Against a model by the chapter's words.

// frameAt tells the kind and the record of the frame with which bytes begin, by trying all that it could be.
func frameAt(b string) (kind byte, rec string, there bool) {
	for _, kind := range []byte("DG") {
		for n := range len(b) {
			from := 4 + len(number(n))
			if from+n > len(b) {
				break
			}
			if rec := b[from : from+n]; strings.HasPrefix(b, frame(kind, rec)) {
				return kind, rec, true
			}
		}
	}
	return 0, "", false
}

// framesBy tells the kinds and the records of bytes. (Turns are made of one byte here.)
func framesBy(b string) (kinds, recs string) {
	for {
		kind, rec, there := frameAt(b)
		if !there || kind == 'G' && (len(rec) != 2 || rec[0] != 1 || rec[1] == 0) {
			return kinds, recs
		}
		kinds += string(rune(kind))
		recs += rec + "-"
		b = b[len(frame(kind, rec)):]
	}
}

// turnBy tells the turn and the records of an area.
func turnBy(b string) (turn int, recs string) {
	kinds, all := framesBy(b)
	for i, rec := range strings.Split(all, "-")[:len(kinds)] {
		if kinds[i] == 'G' {
			turn = max(turn, int(rec[1]))
		} else {
			recs += rec + "-"
		}
	}
	return turn, recs
}

// mixed is frames of all sorts, some of them spoilt.
func mixed(below func(int) int) string {
	b := ""
	for range below(6) {
		rec := strings.Repeat(string(rune('a'+below(26))), below(5))
		f := frame('D', rec)
		switch below(8) {
		case 0, 1, 2:
			f = turnFrame(1 + below(40))
		case 3:
			f = frame("DGE"[below(3)], "\x01\x00")
		case 4:
			if below(3) == 0 {
				f = f[:below(len(f))]
			}
		}
		b += f
	}
	return b
}

func TestFramesModel(t *testing.T) {
	below := chances(6)
	long := 0
	for range 3000 {
		b := mixed(below)
		kinds, recs := framesBy(b)
		frames(t, "mixed", b, kinds, recs)
		if len(kinds) > 3 {
			long++
		}
	}
	if long == 0 {
		t.Error("all were short")
	}
}
