package state

import (
	"bytes"
	"crypto/sha256"
	"math"
	"slices"
	"strings"
	"testing"

	"raddle/api"
)

// number is a number's bytes by the document's words; none of one below 0.
func number(n int) []byte {
	if n < 0 {
		return nil
	}
	var low []byte
	for ; n > 0; n >>= 8 {
		low = append(low, byte(n))
	}
	slices.Reverse(low)
	return append([]byte{byte(len(low))}, low...)
}

// laid is a state's bytes by the document's words.
func laid(s api.State) string {
	out := slices.Concat(number(s.Epoch), number(s.Next), number(s.Count), s.Chain[:], number(len(s.Clients)))
	for _, w := range s.Clients {
		out = slices.Concat(out, number(w.Base), number(int(w.Bits>>32)), number(int(w.Bits&math.MaxUint32)))
	}
	out = append(out, number(len(s.Penal))...)
	for _, p := range s.Penal {
		out = append(out, number(p)...)
	}
	return string(out)
}

// kept is a config with a state that may be of it.
type kept struct {
	c api.Config
	s api.State
}

// states are many that may be, at the ends of what may be and between.
func states(t *testing.T) []kept {
	t.Helper()
	below := chance(22)
	pick := func(l ...int) int { return l[below(len(l))] }
	var out []kept
	for _, c := range configs(t) {
		for range 20 {
			s := api.State{
				Epoch: pick(1, 1+below(c.Last), c.Last, c.Last+1),
				Next:  pick(1, 1+below(1000), 256*256, api.MaxNum-below(9), api.MaxNum),
				Count: pick(0, below(1000), 255, 256, api.MaxNum-below(9), api.MaxNum),
			}
			for i := range s.Chain {
				s.Chain[i] = byte(below(256))
			}
			for range c.Clients {
				w := api.Window{Base: pick(1, 1+below(1000), api.MaxNum-64), Bits: uint64(below(1<<30)) << pick(0, 17, 34) &^ 1}
				s.Clients = append(s.Clients, w)
			}
			s.Clients[below(c.Clients)] = api.Window{Base: api.MaxNum + 1}
			for range c.Nodes {
				s.Penal = append(s.Penal, pick(0, below(300), api.MaxEpoch, api.MaxEpoch+16))
			}
			if !Good(c, s) {
				t.Fatalf("%+v may not be of %+v", s, c)
			}
			out = append(out, kept{c, s})
		}
		out = append(out, kept{c, First(c)})
	}
	return append(out, kept{config(), state()})
}

// The chapter's example.

func TestExample(t *testing.T) {
	c := config()
	c.Clients = 1
	want := "\x01\x01\x01\x01\x00" + strings.Repeat("\x00", 32) + "\x01\x01" + "\x01\x01\x00\x00" + "\x01\x04" + "\x00\x00\x00\x00"
	if got := Bytes(First(c)); got != want {
		t.Errorf("%x", got)
	}
}

// P22.3

func TestBytes(t *testing.T) {
	for _, x := range states(t) {
		if got := Bytes(x.s); got != laid(x.s) {
			t.Fatalf("%+v: %x", x.s, got)
		}
	}
	for name, s := range wrongs() {
		if got := Bytes(s); got != laid(s) {
			t.Errorf("%s: %x", name, got)
		}
	}
	// A long list of one that may not be is no reason to take long.
	long := api.State{Penal: make([]int, 1<<18), Clients: make([]api.Window, 1<<18)}
	if got := len(Bytes(long)); got != 3+32+4+3<<18+4+1<<18 {
		t.Error(got)
	}
}

func TestDigest(t *testing.T) {
	for _, x := range states(t) {
		if got := Digest(x.s); got != sha256.Sum256([]byte("S"+laid(x.s))) {
			t.Fatalf("%+v: %x", x.s, got)
		}
	}
	if Digest(api.State{}) != sha256.Sum256([]byte("S"+laid(api.State{}))) {
		t.Error("of the zero state")
	}
}

func TestParseCutAndMore(t *testing.T) {
	text := Bytes(state())
	for i := range len(text) {
		if s, err := Parse(config(), text[:i]); err != api.ErrCut || !Same(s, api.State{}) {
			t.Fatal(i, s, int(err))
		}
	}
	for _, more := range []string{"\x00", "x", text, strings.Repeat("\xff", 99)} {
		if s, err := Parse(config(), text+more); err != api.ErrMore || !Same(s, api.State{}) {
			t.Error(s, int(err))
		}
	}
}

// fields are the parts of a state's bytes, which may be exchanged one by one.
func fields(s api.State) [][]byte {
	out := [][]byte{number(s.Epoch), number(s.Next), number(s.Count), s.Chain[:], number(len(s.Clients))}
	for _, w := range s.Clients {
		out = append(out, number(w.Base), number(int(w.Bits>>32)), number(int(w.Bits&math.MaxUint32)))
	}
	out = append(out, number(len(s.Penal)))
	for _, p := range s.Penal {
		out = append(out, number(p))
	}
	return out
}

func TestParseBounds(t *testing.T) {
	// The places of the parts: 0 Epoch, 1 Next, 2 Count, 3 the chain, 4 how many clients, 5 to 10 windows, 11 how many nodes, 12 to 15 penalties.
	for _, x := range []struct {
		name      string
		place, n  int
		want, one api.Errno // of n, and of one more
	}{
		{"Epoch of Last", 0, 9, api.OK, api.OK},
		{"Epoch Last + 1", 0, 10, api.OK, api.ErrState},
		{"Epoch MaxEpoch + 1", 0, api.MaxEpoch + 1, api.ErrState, api.ErrLong},
		{"Next", 1, api.MaxNum, api.OK, api.ErrLong},
		{"Next 0", 1, 0, api.ErrState, api.OK},
		{"Count", 2, api.MaxNum, api.OK, api.ErrLong},
		{"Count 0", 2, 0, api.OK, api.OK},
		{"Clients", 4, api.MaxClients, api.ErrCut, api.ErrLong},
		{"the first Base", 5, api.MaxNum + 1, api.ErrState, api.ErrLong},
		{"the first Base 0", 5, 0, api.ErrState, api.OK},
		{"the first higher half", 6, math.MaxUint32, api.OK, api.ErrLong},
		{"the first lower half", 7, math.MaxUint32 - 1, api.OK, api.ErrState},
		{"the first lower half beyond", 7, math.MaxUint32, api.ErrState, api.ErrLong},
		{"the last Base", 8, api.MaxNum + 1, api.OK, api.ErrLong},
		{"the last higher half", 9, math.MaxUint32, api.OK, api.ErrLong},
		{"the last lower half", 10, 0, api.OK, api.ErrState},
		{"Penal", 11, api.MaxNodes, api.ErrCut, api.ErrLong},
		{"the first penalty", 12, api.MaxEpoch + 16, api.OK, api.ErrLong},
		{"the last penalty", 15, api.MaxEpoch + 16, api.OK, api.ErrLong},
	} {
		for i, want := range []api.Errno{x.want, x.one} {
			l := fields(state())
			l[x.place] = number(x.n + i)
			s, err := Parse(config(), string(bytes.Join(l, nil)))
			if err != want || err != api.OK && !Same(s, api.State{}) || err == api.OK && Bytes(s) != string(bytes.Join(l, nil)) {
				t.Errorf("%s, %d: %d, not %d", x.name, x.n+i, int(err), int(want))
			}
		}
	}
}

// Each number is refused in another form than its one.
func TestParseForms(t *testing.T) {
	for place := range fields(state()) {
		if place == 3 {
			continue
		}
		for _, wrong := range []string{"\x01\x00", "\x02\x00\x01", "\x09123456789", "\xff", "\x08\x80\x00\x00\x00\x00\x00\x00\x00"} {
			l := fields(state())
			l[place] = []byte(wrong)
			if s, err := Parse(config(), string(bytes.Join(l, nil))); err != api.ErrForm || !Same(s, api.State{}) {
				t.Errorf("place %d, %x: %d", place, wrong, int(err))
			}
		}
	}
}

func TestParseFewerAndMore(t *testing.T) {
	for name, s := range map[string]api.State{
		"no clients":        with(func(s *api.State) { s.Clients = nil }),
		"a client too few":  with(func(s *api.State) { s.Clients = s.Clients[:1] }),
		"a client too many": with(func(s *api.State) { s.Clients = append(s.Clients, api.Window{Base: 1}) }),
		"no nodes":          with(func(s *api.State) { s.Penal = nil }),
		"a node too few":    with(func(s *api.State) { s.Penal = s.Penal[:3] }),
		"a node too many":   with(func(s *api.State) { s.Penal = append(s.Penal, 1) }),
		"zero":              {},
	} {
		if got, err := Parse(config(), laid(s)); err != api.ErrState || !Same(got, api.State{}) {
			t.Error(name, int(err))
		}
	}
}

// What is wrong with the bytes is told ahead of what is wrong with the state, or with the config.
func TestParseOrder(t *testing.T) {
	wrong := laid(with(func(s *api.State) { s.Epoch = 0 }))
	for _, c := range append(wrongConfigs(), config()) {
		for text, want := range map[string]api.Errno{
			wrong: api.ErrState, wrong + "x": api.ErrMore, wrong[:len(wrong)-1]: api.ErrCut, "": api.ErrCut, "\x09": api.ErrForm, "\x08\x01": api.ErrCut,
			"\x03\x10\x00\x02": api.ErrLong,
		} {
			if s, err := Parse(c, text); err != want || !Same(s, api.State{}) {
				t.Errorf("%x: %d, not %d", text, int(err), int(want))
			}
		}
	}
	for _, c := range wrongConfigs() {
		if _, err := Parse(c, Bytes(state())); err != api.ErrState {
			t.Error(c, int(err))
		}
	}
	// The first thing that is wrong decides, though a window ahead of it may not be.
	l := fields(state())
	l[5], l[11] = number(0), number(api.MaxNodes+1)
	if _, err := Parse(config(), string(bytes.Join(l, nil))); err != api.ErrLong {
		t.Error(int(err))
	}
}

// P22.4: back.
func TestBack(t *testing.T) {
	for _, x := range states(t) {
		if s, err := Parse(x.c, Bytes(x.s)); err != api.OK || !Same(s, x.s) {
			t.Fatalf("%+v: %+v, %d", x.s, s, int(err))
		}
	}
}

// What is parsed has the bytes that it was parsed from, whatever bytes come in.
func TestAnyBytes(t *testing.T) {
	below := chance(23)
	taken := 0
	for _, x := range states(t) {
		text := []byte(Bytes(x.s))
		for range 20 {
			other := slices.Clone(text)
			other[below(len(other))] ^= byte(1 << below(8))
			s, err := Parse(x.c, string(other))
			if err != api.OK {
				continue
			}
			taken++
			if Bytes(s) != string(other) || !Good(x.c, s) || Same(s, x.s) {
				t.Fatalf("%x: %+v", other, s)
			}
		}
	}
	if taken == 0 {
		t.Error("none was taken")
	}
}

// P22.5: apart.
func TestApart(t *testing.T) {
	met := map[string]api.State{}
	meet := func(s api.State) {
		t.Helper()
		text := Bytes(s)
		if was, there := met[text]; there && !Same(was, s) {
			t.Fatalf("%+v and %+v", was, s)
		}
		met[text] = s
	}
	for _, x := range states(t) {
		meet(x.s)
	}
	many := len(met)
	near := []func(s *api.State){
		func(s *api.State) { s.Epoch++ }, func(s *api.State) { s.Next++ }, func(s *api.State) { s.Count++ }, func(s *api.State) { s.Chain[0]++ }, func(s *api.State) { s.Chain[31]++ },
		func(s *api.State) { s.Clients[0].Base++ }, func(s *api.State) { s.Clients[1].Base++ }, func(s *api.State) { s.Clients[0].Bits ^= 1 << 40 }, func(s *api.State) { s.Clients[1].Bits ^= 2 },
		func(s *api.State) { slices.Reverse(s.Clients) }, func(s *api.State) { s.Penal[0]++ }, func(s *api.State) { s.Penal[3]++ }, func(s *api.State) { slices.Reverse(s.Penal) },
		func(s *api.State) { s.Next, s.Count = s.Count, s.Next }, func(s *api.State) { s.Epoch, s.Penal[2] = s.Penal[2], s.Epoch },
	}
	for _, change := range near {
		if s := with(change); !Good(config(), s) {
			t.Fatalf("%+v may not be", s)
		}
		meet(with(change))
	}
	if len(met) != many+len(near) {
		t.Error(len(met), many, len(near))
	}
}
