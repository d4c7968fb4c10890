package journal

import (
	"slices"
	"strings"
	"testing"

	"raddle/api"
	"raddle/tape"
)

// list is the records of a text in which each one ends with a dash.
func list(s string) [][]byte {
	var out [][]byte
	for r := range strings.SplitSeq(s, "-") {
		out = append(out, []byte(r))
	}
	return out[:len(out)-1]
}

// laid is the bytes of an area that was laid anew, by the chapter's words.
func laid(recs string, turn int) string {
	s := ""
	for _, r := range list(recs) {
		s += frame('D', string(r))
	}
	return s + turnFrame(turn)
}

// must fails where an answer is not the one that is wanted.
func must(t *testing.T, name string, got, want api.Errno) {
	t.Helper()
	if got != want {
		t.Errorf("%s: %d, want %d", name, int(got), int(want))
	}
}

// open opens a journal that must have those records.
func open(t *testing.T, d *tape.Tape, recs string) *Journal {
	t.Helper()
	j, l, err := Open(d)
	if j == nil || err != api.OK || dashed(l) != recs {
		t.Fatalf("Open: %q, error %d; want %q", dashed(l), int(err), recs)
	}
	return j
}

// fails fails where a tape's journal can be opened, or the error is another one.
func fails(t *testing.T, name string, d *tape.Tape, want api.Errno) {
	t.Helper()
	j, l, err := Open(d)
	if j != nil || len(l) != 0 {
		t.Errorf("%s: beside the error stand %v, %q", name, j, dashed(l))
	}
	must(t, name, err, want)
}

// add appends records that must be taken.
func add(t *testing.T, j *Journal, recs string) {
	t.Helper()
	for _, r := range list(recs) {
		must(t, "Append", j.Append(r), api.OK)
	}
}

// with is a tape whose areas have those bytes.
func with(t *testing.T, room int, areas ...string) *tape.Tape {
	t.Helper()
	d := tape.New(room)
	for i, s := range areas {
		must(t, "Append", d.Append(i, []byte(s)), api.OK)
	}
	return d
}

// area is what an area has; power must be there.
func area(t *testing.T, d *tape.Tape, i int) string {
	t.Helper()
	b, err := d.Read(i)
	must(t, "Read", err, api.OK)
	return string(b)
}

// stands fails where a journal or its area is not as it should be.
func stands(t *testing.T, j *Journal, own, turn int, bytes string, sure bool) {
	t.Helper()
	if j.area != own || j.Turn() != turn || j.Bytes() != len(bytes) || j.Sure() != sure || !j.On() {
		t.Errorf("area %d, turn %d, %d bytes, sure %v, on %v; want %d, %d, %d, %v", j.area, j.Turn(), j.Bytes(), j.Sure(), j.On(), own, turn, len(bytes), sure)
	}
	if got := area(t, j.tape, own); got != bytes {
		t.Errorf("area %d: %x, want %x", own, got, bytes)
	}
}

// The chapter's example.

func TestExample(t *testing.T) {
	d := tape.New(100)
	j := open(t, d, "")
	stands(t, j, 0, 1, turnFrame(1), true)
	if area(t, d, 1) != "" {
		t.Error("area 1 has something")
	}
}

// P16.2

func TestOpenFindsTheArea(t *testing.T) {
	long := strings.Repeat("l", 300)
	for _, x := range []struct {
		name, zero, one, want string
		own, turn             int
	}{
		{"nothing", "", "", "", 0, 1},
		{"junk", "junk", "\x00\x00", "", 0, 1},
		{"records without a turn", frame('D', "a"), frame('D', "b") + frame('D', "c"), "", 0, 1},
		{"area 0 alone", laid("a-b-", 1), "", "a-b-", 1, 2},
		{"area 1 alone", "", laid("a-b-", 1), "a-b-", 0, 2},
		{"area 1 without records", frame('D', "a"), turnFrame(4), "", 0, 5},
		{"area 0 greater", laid("a-", 6), laid("b-", 5), "a-", 1, 7},
		{"area 1 greater", laid("a-", 5), laid("b-", 6), "b-", 0, 7},
		{"far greater", laid("a-", 255), laid("b-", 256), "b-", 0, 257},
		{"the same", laid("a-", 5), laid("b-", 5), "a-", 1, 6},
		{"the same, area 0 without records", turnFrame(5), laid("b-", 5), "", 1, 6},
		{"records behind the turn", laid("a-", 2) + frame('D', "x") + frame('D', ""), laid("b-", 1), "a-x--", 1, 3},
		{"records on both sides", "", frame('D', "") + turnFrame(3) + frame('D', long), "-" + long + "-", 0, 4},
		{"many turns, the greatest first", turnFrame(9) + turnFrame(2), laid("b-", 8), "", 1, 10},
		{"many turns, the greatest last", turnFrame(2) + frame('D', "a") + turnFrame(9), laid("b-", 8), "a-", 1, 10},
		{"a cut end", laid("a-b-", 2) + frame('D', "c")[:4], laid("b-", 1), "a-b-", 1, 3},
		{"a cut turn", laid("a-b-", 1), laid("c-", 2)[:len(laid("c-", 2))-1], "a-b-", 1, 2},
		{"a turn behind junk", laid("a-", 1), "x" + laid("c-", 2), "a-", 1, 2},
		{"a turn that is none", laid("a-", 1), frame('D', "c") + frame('G', number(0)) + turnFrame(2), "a-", 1, 2},
		{"another kind", laid("a-", 1), frame('E', "c") + turnFrame(2), "a-", 1, 2},
		{"all but the greatest turn", laid("a-", api.MaxNum-1), laid("b-", 3), "a-", 1, api.MaxNum},
		{"a turn above the greatest", laid("a-", 3), laid("b-", api.MaxNum+1), "a-", 1, 4},
	} {
		t.Run(x.name, func(t *testing.T) {
			d := with(t, 10000, x.zero, x.one)
			old := [2]string{x.zero, x.one}
			before, _ := d.Counts()
			j := open(t, d, x.want)
			stands(t, j, x.own, x.turn, laid(x.want, x.turn), true)
			if other := 1 - x.own; area(t, d, other) != old[other] {
				t.Errorf("the other area was changed to %x", area(t, d, other))
			}
			// As by Lay: Clear, the records, the turn, Sync.
			if ops, _ := d.Counts(); ops-before != len(list(x.want))+3 {
				t.Errorf("%d operations", ops-before)
			}
			// P16.7, where there is a turn behind this one
			if x.turn < api.MaxNum {
				stands(t, open(t, d, x.want), 1-x.own, x.turn+1, laid(x.want, x.turn+1), true)
			} else {
				fails(t, "the greatest turn", d, api.ErrArg)
			}
		})
	}
}

func TestOpenErrors(t *testing.T) {
	fails(t, "nil", nil, api.ErrNil)
	fails(t, "plain", &tape.Tape{}, api.ErrNil)
	d := with(t, 1000, laid("a-", 1))
	d.Fail(1000)
	fails(t, "no power", d, api.ErrPower)
	d.Power()
	open(t, d, "a-")

	d = with(t, 1000, laid("a-", api.MaxNum), laid("b-", 4))
	before, _ := d.Counts()
	fails(t, "the greatest turn", d, api.ErrArg)
	if ops, _ := d.Counts(); ops != before || area(t, d, 0) != laid("a-", api.MaxNum) || area(t, d, 1) != laid("b-", 4) {
		t.Error("what was refused changed something")
	}
}

func TestOpenWithoutRoom(t *testing.T) {
	least := len(turnFrame(1))
	fails(t, "no room for a turn", tape.New(least-1), api.ErrRoom)
	open(t, tape.New(least), "")
	// The two areas together must have room for the records twice.
	for room := range 100 {
		own := laid("abc-d-", 1)
		if room < len(own) {
			continue
		}
		d := with(t, room, own)
		if room < len(own)+len(laid("abc-d-", 2)) {
			fails(t, "no room", d, api.ErrRoom)
			if area(t, d, 0) != own || area(t, d, 1) != "" {
				t.Errorf("room %d: %x, %x", room, area(t, d, 0), area(t, d, 1))
			}
		} else {
			stands(t, open(t, d, "abc-d-"), 1, 2, laid("abc-d-", 2), true)
		}
	}
}

// Power that goes at each operation of Open: its error, and the records stay.
func TestOpenFails(t *testing.T) {
	for n := range 6 {
		for keep := range 60 {
			d := with(t, 1000, laid("a-", 3), laid("b-c-", 4)+frame('D', "d"))
			must(t, "Sync", d.Sync(1), api.OK)
			must(t, "Arm", d.Arm(n, keep), api.OK)
			fails(t, "power goes", d, api.ErrPower)
			d.Power()
			open(t, d, "b-c-d-")
		}
	}
}

func TestOpenMemory(t *testing.T) {
	d := with(t, 1000, laid("abc-def-", 1))
	j, l, _ := Open(d)
	copy(l[0], "###")
	_ = append(l[0], "####"...)
	if dashed(l) != "###-def-" || area(t, d, j.area) != laid("abc-def-", 2) {
		t.Errorf("%q", dashed(l))
	}
}

// P16.3, Append and Sync

func TestAppendAndSync(t *testing.T) {
	d := tape.New(10000)
	j := open(t, d, "")
	want := turnFrame(1)
	for _, r := range []string{"a", "", "\x00\xff-", strings.Repeat("z", 1000)} {
		must(t, "Append", j.Append([]byte(r)), api.OK)
		want += frame('D', r)
		stands(t, j, 0, 1, want, false)
	}
	must(t, "Append", j.Append(nil), api.OK)
	want += frame('D', "")
	must(t, "Sync", j.Sync(), api.OK)
	stands(t, j, 0, 1, want, true)
	must(t, "Sync again", j.Sync(), api.OK)
	stands(t, j, 0, 1, want, true)
	// Clear, turn, Sync of Open; five records; two Syncs.
	if ops, _ := d.Counts(); ops != 10 {
		t.Errorf("%d operations", ops)
	}
	open(t, d, "a--\x00\xff--"+strings.Repeat("z", 1000)+"--")
}

func TestAppendErrorsInOrder(t *testing.T) {
	long := make([]byte, api.MaxRecord+1)
	d := tape.New(100)
	j := open(t, d, "")
	must(t, "long ahead of room", j.Append(long), api.ErrLong)
	must(t, "no room", j.Append(long[1:]), api.ErrRoom)
	must(t, "no room", j.Append(make([]byte, 100)), api.ErrRoom)
	stands(t, j, 0, 1, turnFrame(1), true)
	d.Fail(0)
	must(t, "power ahead of long", j.Append(long), api.ErrPower)
	d.Power()
	must(t, "power was gone", j.Append(long), api.ErrPower)
	must(t, "power was gone", j.Append(nil), api.ErrPower)
	must(t, "power was gone", j.Sync(), api.ErrPower)
	must(t, "power was gone", j.Lay(nil), api.ErrPower)
	must(t, "power was gone", j.Lay([][]byte{long}), api.ErrPower)
	if area(t, d, 0) != turnFrame(1) || area(t, d, 1) != "" {
		t.Error("what was refused changed something")
	}
}

func TestAppendLong(t *testing.T) {
	d := tape.New(4 * api.MaxRecord)
	j := open(t, d, "")
	rec := strings.Repeat("y", api.MaxRecord)
	must(t, "the longest", j.Append([]byte(rec)), api.OK)
	must(t, "one more", j.Append([]byte(rec+"y")), api.ErrLong)
	stands(t, j, 0, 1, turnFrame(1)+frame('D', rec), false)
	j = open(t, d, rec+"-")
	must(t, "one more", j.Lay([][]byte{nil, []byte(rec + "y"), nil}), api.ErrLong)
	stands(t, j, 1, 2, laid(rec+"-", 2), true)
	must(t, "the longest", j.Lay([][]byte{[]byte(rec), []byte("x")}), api.OK)
	stands(t, j, 0, 3, laid(rec+"-x-", 3), true)
}

func TestAppendRoom(t *testing.T) {
	d := tape.New(len(turnFrame(1) + frame('D', "abc")))
	j := open(t, d, "")
	must(t, "too much", j.Append([]byte("abcd")), api.ErrRoom)
	stands(t, j, 0, 1, turnFrame(1), true)
	must(t, "all the room", j.Append([]byte("abc")), api.OK)
	stands(t, j, 0, 1, turnFrame(1)+frame('D', "abc"), false)
}

// A record that has no room is refused for that, whatever the tape's plan is, and leaves the plan as it was.
func TestAppendRoomAndPlan(t *testing.T) {
	for n := range 3 {
		d := tape.New(len(turnFrame(1)))
		j := open(t, d, "")
		must(t, "Arm", d.Arm(n, 0), api.OK)
		for range 3 {
			must(t, "no room", j.Append(nil), api.ErrRoom)
			stands(t, j, 0, 1, turnFrame(1), true)
		}
		for range n {
			must(t, "Sync", j.Sync(), api.OK)
		}
		must(t, "no room", j.Append([]byte("abc")), api.ErrRoom)
		must(t, "power goes", j.Sync(), api.ErrPower)
		must(t, "power ahead of room", j.Append(nil), api.ErrPower)
	}
}

func TestAppendMemory(t *testing.T) {
	d := tape.New(1000)
	j := open(t, d, "")
	whole := []byte("abcdef")
	add(t, j, "-")
	must(t, "Append", j.Append(whole[:3]), api.OK)
	must(t, "Lay", j.Lay([][]byte{whole[:3], whole[1:2]}), api.OK)
	if string(whole) != "abcdef" {
		t.Errorf("what was handed in is now %q", whole)
	}
	copy(whole, "######")
	open(t, d, "abc-b-")
}

// Power that goes by the tape's plan is the tape's error.
func TestPowerGoesWithin(t *testing.T) {
	for name, call := range map[string]func(*Journal) api.Errno{
		"Append": func(j *Journal) api.Errno { return j.Append([]byte("x")) },
		"Sync":   (*Journal).Sync,
		"Lay":    func(j *Journal) api.Errno { return j.Lay(nil) },
	} {
		d := tape.New(1000)
		j := open(t, d, "")
		add(t, j, "a-")
		d.Arm(0, 0)
		must(t, name, call(j), api.ErrPower)
		if j.On() || j.Turn() != 1 || j.Bytes() != len(turnFrame(1)) || !j.Sure() {
			t.Errorf("%s: on %v, turn %d, %d bytes, sure %v", name, j.On(), j.Turn(), j.Bytes(), j.Sure())
		}
		must(t, name, call(j), api.ErrPower)
		d.Power()
		must(t, name, call(j), api.ErrPower)
		open(t, d, "")
	}
}

// P16.3, Lay

func TestLay(t *testing.T) {
	d := tape.New(10000)
	j := open(t, d, "")
	add(t, j, "a-b-")
	old := area(t, d, 0)
	for i, recs := range []string{"x-y--", "", "z-", "-", "q-r-s-t-"} {
		own, turn := (i+1)%2, i+2
		must(t, "Lay", j.Lay(list(recs)), api.OK)
		stands(t, j, own, turn, laid(recs, turn), true)
		if got := area(t, d, 1-own); got != old {
			t.Errorf("turn %d: the other area has %x, want %x", turn, got, old)
		}
		add(t, j, "behind-")
		old = laid(recs, turn) + frame('D', "behind")
		stands(t, j, own, turn, old, false)
	}
	must(t, "nil", j.Lay(nil), api.OK)
	open(t, d, "")
}

// What each operation of Lay does is seen when power goes at the next one, and all is kept.
func TestLayStepByStep(t *testing.T) {
	for n, want := range []string{
		laid("old-", 1),
		"",
		frame('D', "p"),
		frame('D', "p") + frame('D', ""),
		laid("p--", 3),
	} {
		d := with(t, 1000, laid("old-", 1))
		j := open(t, d, "old-")
		add(t, j, "more-")
		must(t, "Arm", d.Arm(n, 1000), api.OK)
		must(t, "Lay", j.Lay(list("p--")), api.ErrPower)
		d.Power()
		if area(t, d, 0) != want || area(t, d, 1) != laid("old-", 2)+frame('D', "more") {
			t.Errorf("behind %d operations: %x, %x", n, area(t, d, 0), area(t, d, 1))
		}
	}
	d := tape.New(1000)
	j := open(t, d, "")
	before, _ := d.Counts()
	must(t, "Arm", d.Arm(5, 0), api.OK)
	must(t, "Lay", j.Lay(list("p--")), api.OK)
	if ops, _ := d.Counts(); ops-before != 5 {
		t.Errorf("%d operations", ops-before)
	}
	must(t, "Sync", j.Sync(), api.ErrPower)
	d.Power()
	if area(t, d, 1) != laid("p--", 2) {
		t.Error("what was laid was not synced")
	}
}

func TestLayErrorsInOrder(t *testing.T) {
	long := make([]byte, api.MaxRecord+1)
	d := with(t, 1000, laid("a-", api.MaxNum-1))
	j := open(t, d, "a-")
	before := [2]string{area(t, d, 0), area(t, d, 1)}
	must(t, "long ahead of the turn", j.Lay([][]byte{nil, long}), api.ErrLong)
	must(t, "the greatest turn", j.Lay(nil), api.ErrArg)
	must(t, "the greatest turn ahead of room", j.Lay([][]byte{long[1:]}), api.ErrArg)
	if area(t, d, 0) != before[0] || area(t, d, 1) != before[1] {
		t.Error("what was refused changed something")
	}
	add(t, j, "b-")
	must(t, "Sync", j.Sync(), api.OK)
	stands(t, j, 1, api.MaxNum, before[1]+frame('D', "b"), true)
	d.Fail(0)
	must(t, "power ahead of long", j.Lay([][]byte{long}), api.ErrPower)
}

func TestLayWithoutRoom(t *testing.T) {
	own := laid("keep-", 2)
	news := laid("p-qq-", 3)
	for room := 2 * len(own); room < len(own)+len(news); room++ {
		d := with(t, room, laid("keep-", 1))
		j := open(t, d, "keep-")
		must(t, "no room", j.Lay(list("p-qq-")), api.ErrRoom)
		stands(t, j, 1, 2, own, true)
		if area(t, d, 0) != "" {
			t.Errorf("room %d: the other area has %x", room, area(t, d, 0))
		}
		add(t, j, "z-")
		must(t, "Sync", j.Sync(), api.OK)
		stands(t, j, 1, 2, own+frame('D', "z"), true)
	}
	d := with(t, len(own)+len(news), laid("keep-", 1))
	j := open(t, d, "keep-")
	must(t, "all the room", j.Lay(list("p-qq-")), api.OK)
	stands(t, j, 0, 3, news, true)
}

// The Clear behind ErrRoom is an operation, at which power may go; the Append that has no room is none.
func TestLayWithoutRoomAndPower(t *testing.T) {
	big := strings.Repeat("b", 200)
	for n := range 4 {
		d := tape.New(100)
		j := open(t, d, "")
		add(t, j, "a-")
		must(t, "Sync", j.Sync(), api.OK)
		must(t, "Arm", d.Arm(n, 100), api.OK)
		// Clear, p, then the great one, which has no room and is not counted, Clear again.
		want := api.ErrPower
		if n == 3 {
			want = api.ErrRoom
		}
		must(t, "Lay", j.Lay(list("p-"+big+"-")), want)
		if j.On() != (n == 3) || j.Turn() != 1 {
			t.Errorf("plan of %d: on %v, turn %d", n, j.On(), j.Turn())
		}
		d.Fail(100)
		d.Power()
		open(t, d, "a-")
	}
}

// P16.4

func TestToldWithoutPower(t *testing.T) {
	for keep, more := range []int{0, 1, 2, 3, 4, 5, 6, 7, 7, 7} {
		d := tape.New(1000)
		j := open(t, d, "")
		add(t, j, "a-")
		must(t, "Fail", d.Fail(keep), api.OK)
		for range 2 {
			if j.On() || !j.Sure() || j.Turn() != 1 || j.Bytes() != len(turnFrame(1))+more {
				t.Errorf("keep %d: on %v, sure %v, turn %d, %d bytes", keep, j.On(), j.Sure(), j.Turn(), j.Bytes())
			}
			d.Power()
		}
	}
}

// A failure ahead of Open is none of the journal's.
func TestOnBehindFailures(t *testing.T) {
	d := tape.New(1000)
	for range 3 {
		d.Fail(0)
		d.Power()
	}
	j := open(t, d, "")
	if !j.On() {
		t.Error("not on")
	}
	add(t, j, "a-")
	d.Fail(100)
	if j.On() {
		t.Error("on without power")
	}
	d.Power()
	if j.On() {
		t.Error("on behind a failure")
	}
	if !open(t, d, "a-").On() || j.On() {
		t.Error("the new one alone is on")
	}
}

func TestNoJournal(t *testing.T) {
	for _, j := range []*Journal{nil, {}, new(Journal)} {
		for range 2 {
			must(t, "Append", j.Append(nil), api.ErrNil)
			must(t, "Append", j.Append(make([]byte, api.MaxRecord+1)), api.ErrNil)
			must(t, "Sync", j.Sync(), api.ErrNil)
			must(t, "Lay", j.Lay(nil), api.ErrNil)
			must(t, "Lay", j.Lay([][]byte{nil, make([]byte, api.MaxRecord+1)}), api.ErrNil)
			if j.Bytes() != 0 || j.Turn() != 0 || j.Sure() || j.On() {
				t.Errorf("%d bytes, turn %d, sure %v, on %v", j.Bytes(), j.Turn(), j.Sure(), j.On())
			}
		}
	}
}

// P16.5, P16.6, P16.7: power goes at each operation of a life, with each number of bytes kept.

// life is what a journal's owner knows: the records, and how many of them are synced. Of a Lay that power cut off the new ones are in laying.
type life struct {
	recs   []string
	synced int
	laying []string
	cut    bool
}

// live goes on with a life until power goes: it opens the tape's journal, and does things to it.
func live(d *tape.Tape, l life, below func(int) int) life {
	j, recs, err := Open(d)
	if err != api.OK {
		return l
	}
	l = life{recs: found(recs), synced: len(recs)}
	for err != api.ErrPower {
		rec := strings.Repeat(string(rune('a'+below(26))), below(4))
		switch below(6) {
		case 0:
			if err = j.Sync(); err == api.OK {
				l.synced = len(l.recs)
			}
		case 1:
			news := append(slices.Clone(l.recs[len(l.recs)/2:]), rec)
			if err = j.Lay(list(strings.Join(news, "-") + "-")); err == api.OK {
				l.recs, l.synced = news, len(news)
			} else if err == api.ErrPower {
				l.laying, l.cut = news, true
			}
		default:
			if err = j.Append([]byte(rec)); err == api.OK {
				l.recs = append(l.recs, rec)
			}
		}
	}
	return l
}

// begins tells whether some records are a beginning of others, and at least so many.
func begins(some, all []string, least int) bool {
	return len(some) >= least && len(some) <= len(all) && slices.Equal(some, all[:len(some)])
}

func found(recs [][]byte) []string {
	var out []string
	for _, r := range recs {
		out = append(out, string(r))
	}
	return out
}

func TestFailures(t *testing.T) {
	below := chances(16)
	news := 0
	for n := range 40 {
		for keep := -1; keep < 60; keep++ {
			d := tape.New(300 + below(300))
			l := life{}
			for range 4 {
				// Power may go within Open, too: what was known ahead of it must outlive that.
				must(t, "Arm", d.Arm(below(n+1), keep), api.OK)
				l = live(d, l, below)
				// Where Open found no room, power is still there, and the plan.
				d.Fail(keep)
				d.Power()
			}
			j, recs, err := Open(d)
			got := found(recs)
			switch {
			case err == api.ErrRoom:
				continue
			case l.cut && slices.Equal(got, l.laying):
				news++
			case err != api.OK || !begins(got, l.recs, l.synced):
				t.Fatalf("plan of %d, keep %d: %q, error %d; there were %q, %d of them synced, laying %q", n, keep, got, int(err), l.recs, l.synced, l.laying)
			}
			again(t, d, j, recs)
		}
	}
	if news == 0 {
		t.Error("no life ended with all the new ones laid")
	}
}

// again tests P16.7: opened again, behind a failure or not, a journal has the same records.
func again(t *testing.T, d *tape.Tape, j *Journal, recs [][]byte) {
	t.Helper()
	for keep := range 3 {
		if keep > 0 {
			d.Fail(keep - 1)
			d.Power()
		}
		other, l, err := Open(d)
		if err == api.ErrRoom {
			return
		}
		if err != api.OK || dashed(l) != dashed(recs) || other.Turn() != j.Turn()+keep+1 {
			t.Fatalf("again: %q, error %d; there were %q", dashed(l), int(err), dashed(recs))
		}
	}
}

// Power that goes in Open, again and again at each of its operations, loses nothing.
func TestFailuresOfOpen(t *testing.T) {
	for keep := range 50 {
		d := tape.New(1000)
		j := open(t, d, "")
		add(t, j, "a-b-c-")
		must(t, "Sync", j.Sync(), api.OK)
		for n := range 6 {
			must(t, "Arm", d.Arm(n, keep), api.OK)
			fails(t, "Open", d, api.ErrPower)
			d.Power()
		}
		open(t, d, "a-b-c-")
	}
}

// All that was laid is there behind Lay, whatever is appended then and lost.
func TestBehindLay(t *testing.T) {
	for keep := range 30 {
		d := tape.New(1000)
		j := open(t, d, "")
		add(t, j, "a-b-")
		must(t, "Lay", j.Lay(list("x-y-")), api.OK)
		add(t, j, "z-zz-")
		d.Fail(keep)
		d.Power()
		_, l, err := Open(d)
		if err != api.OK || !begins(found(l), []string{"x", "y", "z", "zz"}, 2) {
			t.Errorf("keep %d: %q, error %d", keep, dashed(l), int(err))
		}
	}
}

// A second journal on the same tape goes its own way; the first one's calls end.
func TestTwoJournals(t *testing.T) {
	d := tape.New(1000)
	first := open(t, d, "")
	add(t, first, "a-")
	second := open(t, d, "a-")
	third := open(t, d, "a-")
	if first.Bytes() != third.Bytes() || first.Turn() != 1 || second.Turn() != 2 || third.Turn() != 3 {
		t.Errorf("%d and %d bytes, turns %d, %d, %d", first.Bytes(), third.Bytes(), first.Turn(), second.Turn(), third.Turn())
	}
	must(t, "Append", first.Append([]byte("b")), api.OK)
	if third.Sure() || third.Bytes() != len(laid("a-", 3)+frame('D', "b")) {
		t.Errorf("%d bytes, sure %v", third.Bytes(), third.Sure())
	}
	open(t, d, "a-b-")
}

// What is done twice comes to the same.

func TestAlike(t *testing.T) {
	run := func() string {
		d := tape.New(500)
		j := open(t, d, "")
		add(t, j, "a-b-")
		j.Lay(list("c-d-"))
		d.Arm(2, 3)
		for j.Append([]byte("e")) == api.OK {
		}
		d.Power()
		return area(t, d, 0) + "/" + area(t, d, 1)
	}
	if first, second := run(), run(); first != second {
		t.Errorf("%x and %x", first, second)
	}
}

// Whatever stands on a tape, its journal opens by the chapter's words, and again with the same records.
func TestAnyBytes(t *testing.T) {
	below := chances(61)
	for range 2000 {
		zero, one := mixed(below), mixed(below)
		d := with(t, 10000, zero, one)
		turn, recs := turnBy(zero)
		if t1, l1 := turnBy(one); t1 > turn {
			turn, recs = t1, l1
		}
		if turn == 0 {
			recs = ""
		}
		if j := open(t, d, recs); j.Turn() != turn+1 {
			t.Fatalf("turn %d, want %d", j.Turn(), turn+1)
		}
		open(t, d, recs)
	}
}
