package tape

import (
	"math"
	"strings"
	"testing"

	"raddle/api"
)

// looks is all that a tape tells of itself. Without power its bytes are told by their number alone.
type looks struct {
	on                     bool
	bytes                  [2]string
	used, sure0, sure1     int
	ops, fails, sureOfNone int
}

func look(t *Tape) looks {
	l := looks{on: t.On(), used: t.Used(), sure0: t.Sure(0), sure1: t.Sure(1), sureOfNone: t.Sure(-1) + t.Sure(2)}
	l.ops, l.fails = t.Counts()
	for i := range l.bytes {
		b, _ := t.Read(i)
		l.bytes[i] = string(b)
	}
	return l
}

// must fails where an answer is not the one that is wanted.
func must(t *testing.T, name string, got, want api.Errno) {
	t.Helper()
	if got != want {
		t.Errorf("%s: %d, want %d", name, int(got), int(want))
	}
}

// has fails where an area has not those bytes, or not so many of them are sure.
func has(t *testing.T, d *Tape, area int, want string, sure int) {
	t.Helper()
	b, err := d.Read(area)
	if err != api.OK || string(b) != want || d.Sure(area) != sure {
		t.Errorf("area %d: %q, %d sure, error %d; want %q, %d sure", area, b, d.Sure(area), int(err), want, sure)
	}
}

// filled is a tape with abc sure and de behind it, and with fg sure and hij behind it.
func filled(t *testing.T, room int) *Tape {
	t.Helper()
	d := New(room)
	for i, l := range [][2]string{{"abc", "de"}, {"fg", "hij"}} {
		must(t, "Append", d.Append(i, []byte(l[0])), api.OK)
		must(t, "Sync", d.Sync(i), api.OK)
		must(t, "Append", d.Append(i, []byte(l[1])), api.OK)
	}
	return d
}

// The chapter's example.

func TestExample(t *testing.T) {
	d := New(100)
	must(t, "Append", d.Append(0, []byte("ab")), api.OK)
	must(t, "Sync", d.Sync(0), api.OK)
	must(t, "Append", d.Append(0, []byte("cd")), api.OK)
	must(t, "Fail", d.Fail(1), api.OK)
	must(t, "Power", d.Power(), api.OK)
	has(t, d, 0, "abc", 3)
}

// P15.1

func TestNew(t *testing.T) {
	for _, room := range []int{math.MinInt, -1, 1<<30 + 1, 1 << 31, math.MaxInt} {
		if New(room) != nil {
			t.Errorf("New(%d) is a tape", room)
		}
	}
	for _, room := range []int{0, 1, 2, 1000, 1<<30 - 1, 1 << 30} {
		d := New(room)
		if d == nil || look(d) != (looks{on: true}) {
			t.Fatalf("New(%d): %+v", room, d)
		}
		has(t, d, 0, "", 0)
		has(t, d, 1, "", 0)
	}
}

// P15.2, Append

func TestAppend(t *testing.T) {
	d := New(100)
	for _, s := range []string{"a", "", "bc", "\x00\xff"} {
		must(t, s, d.Append(1, []byte(s)), api.OK)
	}
	must(t, "nil", d.Append(1, nil), api.OK)
	must(t, "other area", d.Append(0, []byte("xyz")), api.OK)
	has(t, d, 1, "abc\x00\xff", 0)
	has(t, d, 0, "xyz", 0)
	if ops, _ := d.Counts(); ops != 6 || d.Used() != 8 {
		t.Errorf("%d operations, %d bytes", ops, d.Used())
	}
}

func TestAppendRoom(t *testing.T) {
	for room := range 7 {
		for first := range room + 1 {
			d := New(room)
			must(t, "first", d.Append(0, make([]byte, first)), api.OK)
			before := look(d)
			for _, more := range []int{1, 2, 100, 70000} {
				for area := range 2 {
					must(t, "above the room", d.Append(area, make([]byte, room-first+more)), api.ErrRoom)
				}
			}
			if look(d) != before {
				t.Errorf("room %d with %d: what was refused changed %+v to %+v", room, first, before, look(d))
			}
			must(t, "all the room", d.Append(1, make([]byte, room-first)), api.OK)
			must(t, "nothing more", d.Append(0, nil), api.OK)
			must(t, "no room", d.Append(0, []byte{1}), api.ErrRoom)
			if d.Used() != room {
				t.Errorf("room %d: %d are used", room, d.Used())
			}
			must(t, "Clear", d.Clear(1), api.OK)
			must(t, "room again", d.Append(0, make([]byte, room-first)), api.OK)
		}
	}
}

func TestGreatestRoom(t *testing.T) {
	d := New(1 << 30)
	part := make([]byte, 1<<24)
	for range 4 {
		must(t, "much", d.Append(0, part), api.OK)
	}
	if d.Used() != 1<<26 || d.Sure(0) != 0 {
		t.Errorf("%d are used", d.Used())
	}
	must(t, "Sync", d.Sync(0), api.OK)
	if d.Sure(0) != 1<<26 {
		t.Errorf("%d are sure", d.Sure(0))
	}
}

func TestAppendErrorsInOrder(t *testing.T) {
	d := New(3)
	long := make([]byte, 4)
	for _, area := range []int{math.MinInt, -1, 2, 3, math.MaxInt} {
		must(t, "no area", d.Append(area, nil), api.ErrArg)
		must(t, "no area ahead of room", d.Append(area, long), api.ErrArg)
	}
	must(t, "room", d.Append(0, long), api.ErrRoom)
	d.Fail(0)
	must(t, "no area ahead of power", d.Append(2, nil), api.ErrArg)
	must(t, "power", d.Append(0, nil), api.ErrPower)
	must(t, "power ahead of room", d.Append(1, long), api.ErrPower)
}

func TestAppendKeepsCopies(t *testing.T) {
	whole := []byte("abcdef")
	d := New(100)
	must(t, "Append", d.Append(0, whole[:2]), api.OK)
	must(t, "Append", d.Append(0, whole[1:3]), api.OK)
	if string(whole) != "abcdef" {
		t.Errorf("what was handed in is now %q", whole)
	}
	copy(whole, "######")
	has(t, d, 0, "abbc", 0)
}

// P15.2, Sync and Clear

func TestSync(t *testing.T) {
	d := filled(t, 100)
	must(t, "Sync", d.Sync(0), api.OK)
	has(t, d, 0, "abcde", 5)
	has(t, d, 1, "fghij", 2)
	must(t, "again", d.Sync(0), api.OK)
	has(t, d, 0, "abcde", 5)
	must(t, "empty", New(0).Sync(1), api.OK)
}

func TestClear(t *testing.T) {
	d := filled(t, 100)
	must(t, "Clear", d.Clear(1), api.OK)
	has(t, d, 1, "", 0)
	has(t, d, 0, "abcde", 3)
	must(t, "Append", d.Append(1, []byte("x")), api.OK)
	has(t, d, 1, "x", 0)
	must(t, "again", d.Clear(1), api.OK)
	must(t, "Fail", d.Fail(100), api.OK)
	must(t, "Power", d.Power(), api.OK)
	has(t, d, 1, "", 0)
}

func TestSyncAndClearErrorsInOrder(t *testing.T) {
	for name, call := range map[string]func(*Tape, int) api.Errno{"Sync": (*Tape).Sync, "Clear": (*Tape).Clear} {
		d := filled(t, 100)
		for _, on := range []bool{true, false} {
			if !on {
				d.Fail(0)
			}
			before := look(d)
			for _, area := range []int{math.MinInt, -1, 2, math.MaxInt} {
				must(t, name, call(d, area), api.ErrArg)
			}
			if !on {
				must(t, name, call(d, 0), api.ErrPower)
				must(t, name, call(d, 1), api.ErrPower)
			}
			if look(d) != before {
				t.Errorf("%s: what was refused changed %+v to %+v", name, before, look(d))
			}
		}
	}
}

// P15.2, plans

// operations are one of each kind, on a tape of 12 that is filled.
func operations() map[string]func(*Tape) api.Errno {
	return map[string]func(*Tape) api.Errno{
		"Append":         func(d *Tape) api.Errno { return d.Append(0, []byte("x")) },
		"Append nothing": func(d *Tape) api.Errno { return d.Append(1, nil) },
		"Append all the room": func(d *Tape) api.Errno {
			return d.Append(0, make([]byte, 12-d.Used()))
		},
		"Sync":  func(d *Tape) api.Errno { return d.Sync(1) },
		"Clear": func(d *Tape) api.Errno { return d.Clear(0) },
	}
}

func TestPlanAtOnce(t *testing.T) {
	for name, operation := range operations() {
		d := filled(t, 12)
		ops, _ := d.Counts()
		must(t, "Arm", d.Arm(0, 1), api.OK)
		must(t, name, operation(d), api.ErrPower)
		if now, fails := d.Counts(); d.On() || now != ops || fails != 1 {
			t.Errorf("%s: on %v, %d operations, %d failures", name, d.On(), now, fails)
		}
		must(t, "Power", d.Power(), api.OK)
		has(t, d, 0, "abcd", 4)
		has(t, d, 1, "fgh", 3)
		for range 3 {
			must(t, name+" without a plan", d.Sync(0), api.OK)
		}
	}
}

func TestPlanCounts(t *testing.T) {
	for name, operation := range operations() {
		for n := range 5 {
			d := filled(t, 100)
			must(t, "Arm", d.Arm(n, 0), api.OK)
			for range n {
				must(t, name, operation(d), api.OK)
			}
			if !d.On() {
				t.Errorf("%s, plan of %d: power went too early", name, n)
			}
			must(t, name, d.Sync(0), api.ErrPower)
			if d.On() {
				t.Errorf("%s, plan of %d: power did not go", name, n)
			}
		}
	}
}

func TestPlanOfMany(t *testing.T) {
	d := New(10)
	must(t, "Arm", d.Arm(math.MaxInt, math.MaxInt), api.OK)
	for range 1000 {
		must(t, "Sync", d.Sync(0), api.OK)
	}
	must(t, "Arm", d.Arm(1000, 0), api.OK)
	for range 1000 {
		must(t, "Sync", d.Sync(0), api.OK)
	}
	must(t, "Sync", d.Sync(0), api.ErrPower)
}

// What is no operation leaves the plan as it is.
func TestPlanOfOthers(t *testing.T) {
	d := filled(t, 100)
	must(t, "Arm", d.Arm(1, 0), api.OK)
	for range 3 {
		must(t, "Append", d.Append(2, nil), api.ErrArg)
		must(t, "Sync", d.Sync(-1), api.ErrArg)
		must(t, "Clear", d.Clear(7), api.ErrArg)
		must(t, "Arm", d.Arm(-1, 9), api.ErrArg)
		must(t, "Power", d.Power(), api.OK)
		look(d)
	}
	must(t, "Sync", d.Sync(0), api.OK)
	must(t, "Sync", d.Sync(0), api.ErrPower)
}

// P15.6: nor does an Append that is refused for room touch the plan, wherever the plan stands.
func TestPlanAndRoom(t *testing.T) {
	for n := range 4 {
		d := filled(t, 12)
		must(t, "Arm", d.Arm(n, 1), api.OK)
		for left := n; left >= 0; left-- {
			before := look(d)
			for area := range 2 {
				must(t, "Append too much", d.Append(area, []byte("xyz")), api.ErrRoom)
			}
			if look(d) != before {
				t.Errorf("plan of %d, %d left: what was refused changed %+v to %+v", n, left, before, look(d))
			}
			if left > 0 {
				must(t, "Append nothing", d.Append(0, nil), api.OK)
			}
		}
		if ops, fails := d.Counts(); ops != 6+n || fails != 0 || !d.On() {
			t.Errorf("plan of %d: %d operations, %d failures, on %v", n, ops, fails, d.On())
		}
		must(t, "Sync", d.Sync(0), api.ErrPower)
		must(t, "power ahead of room", d.Append(0, []byte("xyz")), api.ErrPower)
		must(t, "Power", d.Power(), api.OK)
		has(t, d, 0, "abcd", 4)
		has(t, d, 1, "fgh", 3)
	}
}

// On a tape without room there are operations still, and just these meet the plan.
func TestPlanWithoutAnyRoom(t *testing.T) {
	d := New(0)
	must(t, "Arm", d.Arm(1, 0), api.OK)
	must(t, "one byte", d.Append(0, []byte{0}), api.ErrRoom)
	must(t, "nothing", d.Append(0, nil), api.OK)
	must(t, "one byte", d.Append(1, []byte{0}), api.ErrRoom)
	if ops, fails := d.Counts(); ops != 1 || fails != 0 || !d.On() {
		t.Errorf("%d operations, %d failures, on %v", ops, fails, d.On())
	}
	must(t, "nothing", d.Append(1, nil), api.ErrPower)
	must(t, "one byte", d.Append(1, []byte{0}), api.ErrPower)
}

func TestPlanInPlaceOfAnother(t *testing.T) {
	d := filled(t, 100)
	must(t, "Arm", d.Arm(0, 9), api.OK)
	must(t, "Arm", d.Arm(1, 1), api.OK)
	must(t, "Append", d.Append(1, []byte("k")), api.OK)
	must(t, "Append", d.Append(1, []byte("l")), api.ErrPower)
	must(t, "Power", d.Power(), api.OK)
	has(t, d, 0, "abcd", 4)
	has(t, d, 1, "fgh", 3)
}

// Power that goes by Fail takes the plan along.
func TestPlanGoesWithPower(t *testing.T) {
	d := filled(t, 100)
	must(t, "Arm", d.Arm(1, 9), api.OK)
	must(t, "Fail", d.Fail(0), api.OK)
	must(t, "Power", d.Power(), api.OK)
	for range 5 {
		must(t, "Sync", d.Sync(0), api.OK)
	}
}

// What is kept

func TestKeep(t *testing.T) {
	for _, x := range []struct {
		keep int
		want [2]string
	}{
		{math.MinInt, [2]string{"abc", "fg"}},
		{-1, [2]string{"abc", "fg"}},
		{0, [2]string{"abc", "fg"}},
		{1, [2]string{"abcd", "fgh"}},
		{2, [2]string{"abcde", "fghi"}},
		{3, [2]string{"abcde", "fghij"}},
		{4, [2]string{"abcde", "fghij"}},
		{math.MaxInt, [2]string{"abcde", "fghij"}},
	} {
		failed, armed := filled(t, 100), filled(t, 100)
		must(t, "Fail", failed.Fail(x.keep), api.OK)
		must(t, "Arm", armed.Arm(0, x.keep), api.OK)
		must(t, "Clear", armed.Clear(0), api.ErrPower)
		for _, d := range []*Tape{failed, armed} {
			if d.Used() != len(x.want[0])+len(x.want[1]) || d.Sure(0) != len(x.want[0]) || d.Sure(1) != len(x.want[1]) {
				t.Errorf("keep %d, without power: %+v", x.keep, look(d))
			}
			must(t, "Power", d.Power(), api.OK)
			for i, want := range x.want {
				has(t, d, i, want, len(want))
			}
			// What was lost does not come back behind what is appended then.
			must(t, "Append", d.Append(1, []byte("!")), api.OK)
			has(t, d, 1, x.want[1]+"!", len(x.want[1]))
			must(t, "Fail", d.Fail(0), api.OK)
			must(t, "Power", d.Power(), api.OK)
			has(t, d, 1, x.want[1], len(x.want[1]))
		}
	}
}

// P15.3

func TestReadErrorsInOrder(t *testing.T) {
	d := filled(t, 100)
	for _, on := range []bool{true, false} {
		if !on {
			d.Fail(9)
		}
		for _, area := range []int{math.MinInt, -1, 2, math.MaxInt} {
			b, err := d.Read(area)
			must(t, "no area", err, api.ErrArg)
			if len(b) != 0 {
				t.Errorf("no area has %q", b)
			}
		}
	}
	b, err := d.Read(0)
	must(t, "power", err, api.ErrPower)
	if len(b) != 0 {
		t.Errorf("without power %q is read", b)
	}
}

func TestReadMakesNewMemory(t *testing.T) {
	d := filled(t, 100)
	first, _ := d.Read(0)
	second, _ := d.Read(0)
	copy(first, "#####")
	_ = append(first, "##"...)
	must(t, "Append", d.Append(0, []byte("z")), api.OK)
	_ = append(first, "##"...)
	has(t, d, 0, "abcdez", 3)
	if string(second) != "abcde" {
		t.Errorf("two answers share memory: %q", second)
	}
}

func TestReadIsNoOperation(t *testing.T) {
	d := filled(t, 100)
	before := look(d)
	if look(d) != before || before.ops != 6 {
		t.Errorf("%+v", look(d))
	}
}

func TestArmErrorsInOrder(t *testing.T) {
	d := filled(t, 100)
	before := look(d)
	must(t, "n -1", d.Arm(-1, 0), api.ErrArg)
	must(t, "n least", d.Arm(math.MinInt, 0), api.ErrArg)
	must(t, "no plan", d.Sync(0), api.OK)
	must(t, "keep least", d.Arm(9, math.MinInt), api.OK)
	d = filled(t, 100)
	must(t, "Fail", d.Fail(9), api.OK)
	must(t, "n ahead of power", d.Arm(-1, 0), api.ErrArg)
	must(t, "power", d.Arm(0, 0), api.ErrPower)
	must(t, "Power", d.Power(), api.OK)
	must(t, "no plan", d.Append(0, nil), api.OK)
	if now := look(d); now.bytes != before.bytes {
		t.Errorf("%+v", now)
	}
}

func TestFailAndPower(t *testing.T) {
	d := filled(t, 100)
	for i := range 4 {
		must(t, "Fail", d.Fail(1), api.OK)
		before := look(d)
		must(t, "Fail without power", d.Fail(0), api.ErrPower)
		if look(d) != before || d.On() || before.fails != i+1 {
			t.Errorf("%+v, then %+v", before, look(d))
		}
		must(t, "Power", d.Power(), api.OK)
		before = look(d)
		must(t, "Power with power", d.Power(), api.OK)
		if look(d) != before || !d.On() {
			t.Errorf("%+v, then %+v", before, look(d))
		}
	}
	has(t, d, 0, "abcd", 4)
	has(t, d, 1, "fgh", 3)
}

// P15.4

func TestToldWithoutPower(t *testing.T) {
	d := filled(t, 100)
	must(t, "Fail", d.Fail(1), api.OK)
	if got := look(d); got != (looks{used: 7, sure0: 4, sure1: 3, ops: 6, fails: 1}) {
		t.Errorf("%+v", got)
	}
	for _, area := range []int{math.MinInt, -1, 2, math.MaxInt} {
		if n := d.Sure(area); n != 0 {
			t.Errorf("Sure(%d): %d", area, n)
		}
	}
}

// A tape that no call made.

func TestNoTape(t *testing.T) {
	for _, d := range []*Tape{nil, {}, new(Tape), New(-1)} {
		for range 2 {
			for _, area := range []int{-1, 0, 1, 2} {
				must(t, "Append", d.Append(area, []byte("a")), api.ErrNil)
				must(t, "Append", d.Append(area, nil), api.ErrNil)
				must(t, "Sync", d.Sync(area), api.ErrNil)
				must(t, "Clear", d.Clear(area), api.ErrNil)
				b, err := d.Read(area)
				must(t, "Read", err, api.ErrNil)
				if len(b) != 0 || d.Sure(area) != 0 {
					t.Errorf("%q, %d sure", b, d.Sure(area))
				}
			}
			must(t, "Arm", d.Arm(-1, 0), api.ErrNil)
			must(t, "Arm", d.Arm(0, 0), api.ErrNil)
			must(t, "Fail", d.Fail(0), api.ErrNil)
			must(t, "Power", d.Power(), api.ErrNil)
			if got := look(d); got != (looks{}) {
				t.Errorf("%+v", got)
			}
		}
	}
}

// Against a model by the chapter's words, with P15.5 and P15.6.

type model struct {
	room    int
	on      bool
	bytes   [2]string
	sure    [2]int
	planned bool
	n, keep int
	ops     int
	fails   int
}

func (m *model) goes(keep int) {
	for i := range m.bytes {
		behind := m.bytes[i][m.sure[i]:]
		switch {
		case keep < 0:
			behind = ""
		case keep < len(behind):
			behind = behind[:keep]
		}
		m.bytes[i] = m.bytes[i][:m.sure[i]] + behind
		m.sure[i] = len(m.bytes[i])
	}
	m.on, m.planned = false, false
	m.fails++
}

// power tells what power has to say to an operation.
func (m *model) power() api.Errno {
	switch {
	case !m.on:
		return api.ErrPower
	case m.planned && m.n == 0:
		m.goes(m.keep)
		return api.ErrPower
	case m.planned:
		m.n--
	}
	return api.OK
}

func (m *model) append(i int, s string) api.Errno {
	if i != 0 && i != 1 {
		return api.ErrArg
	}
	if m.on && len(m.bytes[0]+m.bytes[1]+s) > m.room {
		return api.ErrRoom
	}
	if err := m.power(); err != api.OK {
		return err
	}
	m.bytes[i] += s
	m.ops++
	return api.OK
}

func (m *model) sync(i int) api.Errno {
	if i != 0 && i != 1 {
		return api.ErrArg
	}
	if err := m.power(); err != api.OK {
		return err
	}
	m.sure[i] = len(m.bytes[i])
	m.ops++
	return api.OK
}

func (m *model) clear(i int) api.Errno {
	if i != 0 && i != 1 {
		return api.ErrArg
	}
	if err := m.power(); err != api.OK {
		return err
	}
	m.bytes[i], m.sure[i] = "", 0
	m.ops++
	return api.OK
}

func (m *model) look() looks {
	l := looks{on: m.on, used: len(m.bytes[0] + m.bytes[1]), sure0: m.sure[0], sure1: m.sure[1], ops: m.ops, fails: m.fails}
	if m.on {
		l.bytes = m.bytes
	}
	return l
}

func TestModel(t *testing.T) {
	x := uint64(15)
	below := func(n int) int {
		x = x*6364136223846793005 + 1442695040888963407
		return int(x>>33) % n
	}
	for range 300 {
		m := &model{room: below(40), on: true}
		d := New(m.room)
		for range 200 {
			step(t, d, m, below)
			if got, want := look(d), m.look(); got != want {
				t.Fatalf("%+v, want %+v", got, want)
			}
		}
	}
}

// step does one thing to a tape and to its model.
func step(t *testing.T, d *Tape, m *model, below func(int) int) {
	t.Helper()
	before, sure := m.bytes, m.sure
	was := look(d)
	area := below(9)/2 - 1
	var got, want api.Errno
	switch below(12) {
	case 0, 1, 2, 3, 4:
		s := strings.Repeat(string(rune('a'+below(26))), below(12))
		got, want = d.Append(area, []byte(s)), m.append(area, s)
	case 5, 6:
		got, want = d.Sync(area), m.sync(area)
	case 7:
		got, want = d.Clear(area), m.clear(area)
	case 8:
		n, keep := below(6)-1, below(20)-2
		got = d.Arm(n, keep)
		switch {
		case n < 0:
			want = api.ErrArg
		case !m.on:
			want = api.ErrPower
		default:
			m.planned, m.n, m.keep = true, n, keep
		}
	case 9:
		keep := below(20) - 2
		got = d.Fail(keep)
		if want = api.ErrPower; m.on {
			want = api.OK
			m.goes(keep)
		}
	default:
		got = d.Power()
		m.on = true
	}
	must(t, "answer", got, want)
	// P15.6
	if refused := got == api.ErrRoom || got == api.ErrPower && !was.on; refused && look(d) != was {
		t.Fatalf("refused with %d: %+v became %+v", int(got), was, look(d))
	}
	// P15.5, of the model: that the tape has the same bytes is seen when power is there again.
	if was.fails != m.fails {
		for i := range before {
			if !strings.HasPrefix(m.bytes[i], before[i][:sure[i]]) || !strings.HasPrefix(before[i], m.bytes[i]) {
				t.Fatalf("area %d: %q became %q, %d were sure", i, before[i], m.bytes[i], sure[i])
			}
		}
	}
}

// What is done twice comes to the same.

func TestAlike(t *testing.T) {
	run := func() []looks {
		var out []looks
		d := filled(t, 20)
		d.Arm(3, 2)
		for i := range 6 {
			d.Append(i%2, []byte("qq"))
			out = append(out, look(d))
			d.Sync(1 - i%2)
			out = append(out, look(d))
		}
		return out
	}
	first, second := run(), run()
	for i := range first {
		if first[i] != second[i] {
			t.Errorf("step %d: %+v and %+v", i, first[i], second[i])
		}
	}
}
