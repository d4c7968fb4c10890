package script

import (
	"bytes"
	"fmt"
	"math"
	"slices"
	"strings"
	"testing"

	"raddle/api"
	"raddle/cluster"
)

func conf() cluster.Conf {
	c := api.Config{Nodes: 4, Clients: 2, Window: 8, Buckets: 4, Cap: 4, Slots: 1, Requests: 2, Timeout: 12, Penalty: 1, Last: 50}
	return cluster.Conf{Config: c, Seed: "script", Faulty: []int{2}, Liars: []int{1}}
}

// random is a row of numbers that look like chance, and are the same each time.
func random(seed int) func(n int) int {
	state := uint64(seed)*2654435761 + 12345
	return func(n int) int {
		state = state*6364136223846793005 + 1442695040888963407
		return int(state>>33) % n
	}
}

// P28.1

func TestExample(t *testing.T) {
	for _, x := range []struct {
		b    []byte
		want []cluster.Act
	}{
		{[]byte{0x0e, 1}, []cluster.Act{{Kind: cluster.Tick, Node: 1}}},
		{[]byte{0x0a}, []cluster.Act{{Kind: cluster.Round}}},
	} {
		if got := Steps(x.b); !slices.Equal(got, x.want) {
			t.Errorf("% x: %+v, want %+v", x.b, got, x.want)
		}
	}
}

// one is a step of each kind, no field of which is like another one, with its bytes.
func one() []struct {
	a cluster.Act
	b []byte
} {
	return []struct {
		a cluster.Act
		b []byte
	}{
		{cluster.Act{Kind: cluster.Deliver, N: 0x0102}, []byte{0, 1, 2}},
		{cluster.Act{Kind: cluster.Drop, N: 0xfffe}, []byte{1, 0xff, 0xfe}},
		{cluster.Act{Kind: cluster.Copy, N: 3}, []byte{2, 0, 3}},
		{cluster.Act{Kind: cluster.Tick, Node: 0xff}, []byte{3, 0xff}},
		{cluster.Act{Kind: cluster.Submit, Node: 1, N: 2, M: 3, Data: "data"}, []byte{4, 1, 2, 3, 4, 'd', 'a', 't', 'a'}},
		{cluster.Act{Kind: cluster.Crash, Node: 1, M: 0x0203}, []byte{5, 1, 2, 3}},
		{cluster.Act{Kind: cluster.Arm, Node: 1, N: 2, M: 0x0304}, []byte{6, 1, 2, 3, 4}},
		{cluster.Act{Kind: cluster.Start, Node: 7}, []byte{7, 7}},
		{cluster.Act{Kind: cluster.Inject, Node: 1, N: 2, Data: "xyz"}, []byte{8, 1, 2, 0, 3, 'x', 'y', 'z'}},
		{cluster.Act{Kind: cluster.Replay, Node: 1, N: 0x0203}, []byte{9, 1, 2, 3}},
		{cluster.Act{Kind: cluster.Round}, []byte{10}},
	}
}

func TestEachKind(t *testing.T) {
	for _, x := range one() {
		b, err := Bytes([]cluster.Act{x.a})
		if err != api.OK || !bytes.Equal(b, x.b) {
			t.Errorf("%+v: % x %d, want % x", x.a, b, int(err), x.b)
		}
		// All numbers that are the kind modulo 11 are the kind.
		for first := x.a.Kind; first < 256; first += 11 {
			b := append([]byte{byte(first)}, x.b[1:]...)
			if got := Steps(b); !slices.Equal(got, []cluster.Act{x.a}) {
				t.Errorf("% x: %+v, want %+v", b, got, x.a)
			}
		}
	}
	if len(Steps(nil)) != 0 || len(Steps([]byte{})) != 0 {
		t.Error("steps of nothing")
	}
	if b, err := Bytes(nil); err != api.OK || len(b) != 0 {
		t.Error(b, int(err))
	}
}

// Where a step's bytes end early, noughts are read, and Data has those that are left.
func TestCut(t *testing.T) {
	for _, x := range one() {
		for cut := 1; cut < len(x.b); cut++ {
			full := append(slices.Clone(x.b[:cut]), make([]byte, 10)...)
			want := Steps(full)[:1]
			if have := cut - (len(x.b) - len(x.a.Data)); x.a.Data != "" && have >= 0 {
				want = []cluster.Act{x.a}
				want[0].Data = x.a.Data[:have]
			}
			// What lies behind the bytes' length is not read.
			if got := Steps(x.b[:cut]); !slices.Equal(got, want) {
				t.Errorf("% x: %+v, want %+v", x.b[:cut], got, want)
			}
		}
	}
	if got := Steps([]byte{0, 7}); !slices.Equal(got, []cluster.Act{{N: 7 << 8}}) {
		t.Errorf("%+v", got)
	}
}

// How much Data a submission has goes by 65; of what is injected it may be two bytes' number.
func TestHowMuchData(t *testing.T) {
	many := bytes.Repeat([]byte{10}, 70000)
	for length, want := range map[int]int{0: 0, 1: 1, 64: 64, 65: 0, 66: 1, 129: 64, 130: 0, 255: 60} {
		b := append([]byte{4, 0, 0, 0, byte(length)}, many[:300]...)
		l := Steps(b)
		if len(l[0].Data) != want || len(l) != 1+300-want {
			t.Errorf("%d: %d bytes, %d steps", length, len(l[0].Data), len(l))
		}
	}
	for _, length := range []int{0, 1, 64, 65, 66, 255, 256, 65535} {
		b := append([]byte{8, 0, 0, byte(length >> 8), byte(length)}, many...)
		l := Steps(b)
		if len(l[0].Data) != length || len(l) != 1+len(many)-length {
			t.Errorf("%d: %d bytes, %d steps", length, len(l[0].Data), len(l))
		}
	}
	if l := Steps([]byte{8, 2, 1, 255, 255, 'a', 'b'}); len(l) != 1 || l[0].Data != "ab" {
		t.Errorf("%+v", l)
	}
}

// Data is new memory.
func TestDataIsOwn(t *testing.T) {
	b := []byte{4, 0, 0, 0, 2, 'a', 'b'}
	l := Steps(b)
	b[5] = 'x'
	if l[0].Data != "ab" {
		t.Error(l[0].Data)
	}
}

// Bytes refuses what Steps could not tell.
func TestBytesErrStep(t *testing.T) {
	// How many bytes each kind's Node, N, M have, and how much Data it has.
	room := [][4]int{{0, 2, 0, 0}, {0, 2, 0, 0}, {0, 2, 0, 0}, {1, 0, 0, 0}, {1, 1, 1, 64}, {1, 0, 2, 0}, {1, 1, 2, 0}, {1, 0, 0, 0}, {1, 1, 0, 65535}, {1, 2, 0, 0}, {0, 0, 0, 0}}
	for kind, has := range room {
		is := func(a cluster.Act, good bool) {
			t.Helper()
			a.Kind = kind
			b, err := Bytes([]cluster.Act{a})
			if (err == api.OK) != good || !good && (err != api.ErrStep || len(b) != 0) {
				t.Errorf("kind %d, %d %d %d, %d bytes: %d", kind, a.Node, a.N, a.M, len(a.Data), int(err))
			}
			if good && !slices.Equal(Steps(b), []cluster.Act{a}) {
				t.Errorf("kind %d: %+v", kind, Steps(b))
			}
		}
		is(cluster.Act{}, true)
		for field, size := range has[:3] {
			of := func(n int) (a cluster.Act) {
				*[]*int{&a.Node, &a.N, &a.M}[field] = n
				return a
			}
			most := 1<<(8*size) - 1
			is(of(most), true)
			for _, n := range []int{most + 1, most + 256, -1, -256, math.MinInt, math.MaxInt, 1 << 32, 1 << 16} {
				is(of(n), false)
			}
		}
		if has[3] < 65535 {
			is(cluster.Act{Data: strings.Repeat("d", has[3])}, true)
		}
		is(cluster.Act{Data: strings.Repeat("d", has[3]+1)}, false)
	}
	for _, kind := range []int{-1, 11, 12, 256, math.MinInt, math.MaxInt} {
		if b, err := Bytes([]cluster.Act{{Kind: kind}}); err != api.ErrStep || len(b) != 0 {
			t.Errorf("kind %d: %d", kind, int(err))
		}
	}
	// One wrong step among good ones.
	l := []cluster.Act{{Kind: cluster.Round}, {Kind: cluster.Tick, N: 1}, {Kind: cluster.Round}}
	if _, err := Bytes(l); err != api.ErrStep {
		t.Error(int(err))
	}
}

func TestBytesErrLong(t *testing.T) {
	rounds := slices.Repeat([]cluster.Act{{Kind: cluster.Round}}, api.MaxScript)
	b, err := Bytes(rounds)
	if err != api.OK || len(b) != api.MaxScript {
		t.Error(len(b), int(err))
	}
	if b, err := Bytes(append(rounds, cluster.Act{Kind: cluster.Round})); err != api.ErrLong || len(b) != 0 {
		t.Error(len(b), int(err))
	}
	// A step that may not be is told ahead of that, wherever it stands.
	if _, err := Bytes(append(rounds, rounds[0], cluster.Act{Kind: 11})); err != api.ErrStep {
		t.Error(int(err))
	}
	if _, err := Bytes([]cluster.Act{{Kind: cluster.Inject, Data: strings.Repeat("d", 65531)}}); err != api.OK {
		t.Error(int(err))
	}
	if _, err := Bytes([]cluster.Act{{Kind: cluster.Inject, Data: strings.Repeat("d", 65532)}}); err != api.ErrLong {
		t.Error(int(err))
	}
	if _, err := Bytes([]cluster.Act{{Kind: cluster.Inject, Data: strings.Repeat("d", 65535)}}); err != api.ErrLong {
		t.Error(int(err))
	}
	if _, err := Bytes([]cluster.Act{{Kind: cluster.Inject, Data: strings.Repeat("d", 65536)}}); err != api.ErrStep {
		t.Error(int(err))
	}
}

// P28.3, P28.4

// someBytes are bytes by chance. They are small ones mostly: kinds and nodes are among these, and little Data.
func someBytes(below func(n int) int, most int) []byte {
	b := make([]byte, below(most))
	for i := range b {
		switch below(20) {
		case 0:
			b[i] = byte(below(256))
		case 1, 2, 3, 4, 5, 6:
			b[i] = byte(below(11))
		default:
			b[i] = byte(below(4))
		}
	}
	return b
}

func TestBackAndParts(t *testing.T) {
	below := random(1)
	for range 2000 {
		one, two := Steps(someBytes(below, 200)), Steps(someBytes(below, 200))
		a, err := Bytes(one)
		if err != api.OK || !slices.Equal(Steps(a), one) {
			t.Fatalf("%+v: %d", one, int(err))
		}
		b, err := Bytes(two)
		if err != api.OK {
			t.Fatalf("%+v: %d", two, int(err))
		}
		if got := Steps(append(a, b...)); !slices.Equal(got, append(one, two...)) {
			t.Fatalf("% x, % x: %+v", a, b, got)
		}
		both, err := Bytes(append(one, two...))
		if err != api.OK || !bytes.Equal(both, append(a, b...)) {
			t.Fatalf("%d", int(err))
		}
	}
}

// P28.2

// told is all that a cluster tells.
func told(c *cluster.Cluster, nodes int) string {
	s := ""
	for i := range nodes {
		waiting, kept, used, rejects := c.Sizes(i)
		s += fmt.Sprintln(c.On(i), c.State(i), c.Next(i), c.Count(i), c.Chain(i), c.Log(i), waiting, kept, used, rejects, c.Ended(i), c.Honest(i))
	}
	s += fmt.Sprintln(c.Len())
	for i := range c.Sent() {
		s += fmt.Sprintln(c.Past(i))
	}
	return s
}

func TestRun(t *testing.T) {
	l := []cluster.Act{
		{Kind: cluster.Submit, Node: 0, N: 0, M: 1, Data: "a"},
		{Kind: cluster.Submit, Node: 1, N: 0, M: 1, Data: "b"},
		{Kind: cluster.Tick, Node: 0},
		{Kind: cluster.Deliver, N: 1},
		{Kind: cluster.Deliver, N: 999},
		{Kind: cluster.Tick, Node: 4},
		{Kind: cluster.Crash, Node: 3, M: 5},
		{Kind: cluster.Tick, Node: 3},
		{Kind: cluster.Start, Node: 3},
		{Kind: cluster.Round},
	}
	want := []api.Errno{api.OK, api.ErrOther, api.OK, api.OK, api.ErrPacket, api.ErrArg, api.OK, api.ErrDown, api.OK, api.OK}
	b, err := Bytes(l)
	if err != api.OK {
		t.Fatal(int(err))
	}
	c, answers, err := Run(conf(), b)
	if err != api.OK || !slices.Equal(answers, want) {
		t.Fatal(answers, int(err))
	}
	by, err := cluster.New(conf())
	if err != api.OK {
		t.Fatal(int(err))
	}
	for _, a := range l {
		by.Do(a)
	}
	if told(c, 4) != told(by, 4) {
		t.Error("the steps come to something else")
	}
	if c, answers, err := Run(conf(), nil); err != api.OK || len(answers) != 0 || !c.On(0) {
		t.Error(answers, int(err))
	}
}

func TestRunErrors(t *testing.T) {
	bad := conf()
	bad.Faulty = []int{9}
	for i, x := range []struct {
		c    cluster.Conf
		many int
		want api.Errno
	}{
		{conf(), api.MaxScript, api.OK},
		{conf(), api.MaxScript + 1, api.ErrLong},
		{cluster.Conf{}, api.MaxScript + 1, api.ErrLong},
		{cluster.Conf{}, 0, api.ErrConfig},
		{bad, 3, api.ErrArg},
	} {
		// Noughts: packets that are delivered, where there are none.
		c, answers, err := Run(x.c, make([]byte, x.many))
		if err != x.want || (c != nil) != (err == api.OK) || err != api.OK && len(answers) != 0 {
			t.Errorf("%d: %d, want %d", i, int(err), int(x.want))
		}
		if err == api.OK && len(answers) != (x.many+2)/3 {
			t.Errorf("%d answers", len(answers))
		}
	}
}

// someScript is the bytes of steps that mean something mostly, a few of which are other bytes then.
func someScript(below func(n int) int) []byte {
	var l []cluster.Act
	for range 200 + below(400) {
		node, packet := below(5), below(12)
		l = append(l, []cluster.Act{
			{Kind: cluster.Deliver, N: packet}, {Kind: cluster.Drop, N: packet}, {Kind: cluster.Copy, N: packet}, {Kind: cluster.Tick, Node: node},
			{Kind: cluster.Submit, Node: node, N: below(3), M: below(9), Data: []string{"a", "b"}[below(2)]},
			{Kind: cluster.Crash, Node: node, M: below(600)}, {Kind: cluster.Arm, Node: node, N: below(9), M: below(600)}, {Kind: cluster.Start, Node: node},
			{Kind: cluster.Inject, Node: below(4), N: node, Data: "\x01\x06\x01\x01\x01\x01"}, {Kind: cluster.Replay, Node: node, N: below(40)}, {Kind: cluster.Round},
		}[[...]int{0, 0, 0, 0, 0, 1, 2, 3, 3, 4, 4, 5, 6, 7, 7, 8, 9, 10, 10}[below(19)]])
	}
	b, _ := Bytes(l)
	for range below(20) {
		b[below(len(b))] = byte(below(256))
	}
	return b
}

// W6: any bytes are a script, and what is done twice comes to the same.
func TestAnyBytes(t *testing.T) {
	met := map[api.Errno]int{}
	for seed := range 60 {
		b := someScript(random(seed))
		if seed%2 == 0 {
			b = someBytes(random(seed), 3000)
		}
		c, answers, err := Run(conf(), b)
		if err != api.OK || len(answers) != len(Steps(b)) {
			t.Fatalf("seed %d: %d answers, %d", seed, len(answers), int(err))
		}
		again, same, err := Run(conf(), b)
		if err != api.OK || !slices.Equal(answers, same) || told(c, 4) != told(again, 4) {
			t.Fatalf("seed %d: done twice it comes to something else", seed)
		}
		for _, x := range answers {
			met[x]++
		}
	}
	for _, x := range []api.Errno{api.OK, api.ErrArg, api.ErrPacket, api.ErrDown, api.ErrThere, api.ErrRequest, api.ErrOther, api.ErrRights} {
		if met[x] == 0 {
			t.Errorf("never met: %d", int(x))
		}
	}
	if met[api.ErrStep] > 0 {
		t.Error("a step that is none")
	}
}

// A script brings requests through, though one leader is silent and one node fails.
func TestGoesOn(t *testing.T) {
	var l []cluster.Act
	for i := range 4 {
		l = append(l, cluster.Act{Kind: cluster.Submit, Node: i, N: 0, M: 1, Data: "a"}, cluster.Act{Kind: cluster.Submit, Node: i, N: 1, M: 1, Data: "b"})
	}
	l = append(l, cluster.Act{Kind: cluster.Arm, Node: 3, N: 5, M: 10})
	l = append(l, slices.Repeat([]cluster.Act{{Kind: cluster.Round}}, 30)...)
	l = append(l, cluster.Act{Kind: cluster.Start, Node: 3})
	l = append(l, slices.Repeat([]cluster.Act{{Kind: cluster.Round}}, cluster.Rounds(conf().Config))...)
	b, err := Bytes(l)
	if err != api.OK {
		t.Fatal(int(err))
	}
	c, _, err := Run(conf(), b)
	if err != api.OK {
		t.Fatal(int(err))
	}
	for _, i := range []int{0, 1, 3} {
		if !c.Ended(i) || c.Count(i) != 2 {
			t.Errorf("node %d: %+v", i, c.State(i))
		}
	}
	if l := c.Log(0); len(l) != 2 || l[0].Index != 1 || l[1].Index != 2 {
		t.Error(l)
	}
}
