package message

import (
	"math"
	"reflect"
	"slices"
	"strings"
	"testing"

	"raddle/api"
)

// encoded is the bytes of a message that must have some.
func encoded(t *testing.T, m api.Msg) string {
	t.Helper()
	s, err := Encode(m)
	if err != api.OK {
		t.Fatalf("Encode of kind %d: %d", m.Kind, int(err))
	}
	return s
}

// mustNotBe fails where a message is good or has bytes.
func mustNotBe(t *testing.T, name string, m api.Msg) {
	t.Helper()
	if Good(m) {
		t.Errorf("kind %d, %s: Good", m.Kind, name)
	}
	if s, err := Encode(m); s != "" || err != api.ErrMessage {
		t.Errorf("kind %d, %s: Encode: %d bytes, %d", m.Kind, name, len(s), int(err))
	}
}

// mustBe fails where a message is not good, or has not its bytes by the chapter's table.
func mustBe(t *testing.T, name string, m api.Msg) {
	t.Helper()
	if !Good(m) {
		t.Errorf("kind %d, %s: not Good", m.Kind, name)
	}
	if s, err := Encode(m); s != joined(partsOf(m)) || err != api.OK {
		t.Errorf("kind %d, %s: Encode: %x, %d", m.Kind, name, s, int(err))
	}
}

// mustFail fails where bytes are not refused with that error.
func mustFail(t *testing.T, name, s string, want api.Errno) {
	t.Helper()
	m, err := Decode(s)
	if err != want {
		t.Errorf("%s: Decode: %d, want %d", name, int(err), int(want))
	}
	if !reflect.DeepEqual(m, api.Msg{}) {
		t.Errorf("%s: beside the error stands %+v", name, m)
	}
}

// The chapter's example.

func TestExample(t *testing.T) {
	m := api.Msg{Kind: api.MsgStatus, Epoch: 2, Slot: 9}
	if s, err := Encode(m); s != "\x01\x06\x01\x02\x01\x09" || err != api.OK {
		t.Errorf("%x %d", s, int(err))
	}
	if x, err := Decode("\x01\x06\x01\x02\x01\x09"); !Same(x, m) || err != api.OK {
		t.Error(x, int(err))
	}
}

// P13.1, Good

func TestGoodKinds(t *testing.T) {
	for _, kind := range []int{math.MinInt, -1, 0, 9, 256 + 6, math.MaxInt} {
		mustNotBe(t, "nothing in it", api.Msg{Kind: kind})
		for _, m := range full() {
			m.Kind = kind
			mustNotBe(t, "all in it", m)
		}
	}
	for kind := 1; kind <= lastKind; kind++ {
		mustBe(t, "full", of(kind))
		if kind == api.MsgVote || kind == api.MsgEntry {
			mustNotBe(t, "a vote without a kind", api.Msg{Kind: kind})
		} else {
			mustBe(t, "all fields zero", api.Msg{Kind: kind})
		}
	}
	mustBe(t, "the least", api.Msg{Kind: api.MsgVote, Vote: api.Vote{Kind: 1}})
	mustBe(t, "the least", api.Msg{Kind: api.MsgEntry, Cert: api.Cert{Vote: api.Vote{Kind: 1}}})
}

func TestGoodNumbers(t *testing.T) {
	for _, x := range spots() {
		with := func(n int) api.Msg {
			m := of(x.kind)
			*x.at(&m) = n
			return m
		}
		for _, n := range []int{math.MinInt, -1, x.least - 1, x.most + 1, math.MaxInt} {
			mustNotBe(t, x.name, with(n))
		}
		for _, n := range []int{x.least, x.least + 1, x.most - 1, x.most} {
			mustBe(t, x.name, with(n))
		}
	}
}

func TestGoodData(t *testing.T) {
	for _, b := range batches() {
		for i := range 2 {
			with := func(n int) api.Msg {
				m := of(b.kind)
				b.at(&m).Requests[i].Data = strings.Repeat("d", n)
				return m
			}
			for _, n := range []int{0, 1, 63, 64} {
				mustBe(t, b.name+".Data", with(n))
			}
			mustNotBe(t, b.name+".Data", with(65))
			mustNotBe(t, b.name+".Data", with(1000))
		}
	}
}

func TestGoodBatches(t *testing.T) {
	for _, b := range batches() {
		with := func(x api.Batch) api.Msg {
			m := of(b.kind)
			*b.at(&m) = x
			return m
		}
		for n := range 5 {
			mustBe(t, b.name, with(api.Batch{Requests: make([]api.Request, n)}))
		}
		mustNotBe(t, b.name, with(api.Batch{Requests: make([]api.Request, 5)}))
		mustNotBe(t, b.name, with(api.Batch{Requests: make([]api.Request, 1000)}))
		mustBe(t, b.name+" is nothing", with(api.Batch{Noop: true}))
		mustBe(t, b.name+" is nothing", with(api.Batch{Noop: true, Requests: []api.Request{}}))
		for _, n := range []int{1, 4, 5} {
			mustNotBe(t, b.name+" is nothing with requests", with(api.Batch{Noop: true, Requests: make([]api.Request, n)}))
		}
	}
}

// A pair may stand twice, signs may be in any order, tags may be whatever they are: that is for others to ask.
func TestGoodAsksNoMore(t *testing.T) {
	r := api.Request{Client: 1, Num: 1}
	mustBe(t, "twice", api.Msg{Kind: api.MsgPropose, Batch: api.Batch{Requests: []api.Request{r, r}}})
	mustBe(t, "order", api.Msg{Kind: api.MsgState, Signs: []api.Sign{{Node: 3}, {Node: 1}, {Node: 3}}})
	mustBe(t, "no message", api.Msg{Kind: api.MsgNew, News: []api.Envelope{{Body: "no message"}, {}}})
}

func TestGoodLists(t *testing.T) {
	for _, l := range signLists() {
		with := func(n int) api.Msg {
			m := of(l.kind)
			*l.at(&m) = make([]api.Sign, n)
			return m
		}
		for _, n := range []int{0, 1, 63, 64} {
			mustBe(t, l.name, with(n))
		}
		mustNotBe(t, l.name, with(65))
		mustNotBe(t, l.name, with(1000))
	}
	held := make([]api.Held, 6)
	for i := range held {
		held[i].Cert.Vote.Kind = 1
	}
	for n := range 5 {
		mustBe(t, "Held", api.Msg{Kind: api.MsgChange, Change: api.Change{Held: held[:n]}})
	}
	mustNotBe(t, "Held", api.Msg{Kind: api.MsgChange, Change: api.Change{Held: held[:5]}})
	mustNotBe(t, "Held", api.Msg{Kind: api.MsgChange, Change: api.Change{Held: held[:6]}})
	news := make([]api.Envelope, 66)
	for _, n := range []int{0, 1, 63, 64} {
		mustBe(t, "News", api.Msg{Kind: api.MsgNew, News: news[:n]})
	}
	mustNotBe(t, "News", api.Msg{Kind: api.MsgNew, News: news[:65]})
	mustNotBe(t, "News", api.Msg{Kind: api.MsgNew, News: news[:66]})
}

// One element that may not be is found at each place of a list that is as long as it may be.
func TestGoodAtEachPlace(t *testing.T) {
	for i := range 64 {
		news, signs := make([]api.Envelope, 64), make([]api.Sign, 64)
		news[i].From, signs[i].Node = 65, -1
		mustNotBe(t, "News", api.Msg{Kind: api.MsgNew, News: news})
		mustNotBe(t, "Signs", api.Msg{Kind: api.MsgState, Signs: signs})
		mustNotBe(t, "Cert's Signs", api.Msg{Kind: api.MsgEntry, Cert: api.Cert{Vote: api.Vote{Kind: 2}, Signs: signs}})
	}
	for i := range 4 {
		requests, held := make([]api.Request, 4), make([]api.Held, 4)
		for j := range held {
			held[j].Cert.Vote.Kind = 1
		}
		requests[i].Client = 9
		held[i].Cert.Vote.Kind = 0
		mustNotBe(t, "Requests", api.Msg{Kind: api.MsgPropose, Batch: api.Batch{Requests: requests}})
		mustNotBe(t, "Held", api.Msg{Kind: api.MsgChange, Change: api.Change{Held: held}})
	}
}

func TestGoodLongTexts(t *testing.T) {
	long := strings.Repeat("l", api.MaxBody+1)
	if !Good(api.Msg{Kind: api.MsgState, State: long[1:]}) || !Good(api.Msg{Kind: api.MsgNew, News: []api.Envelope{{Body: long[1:]}}}) {
		t.Error("a text of MaxBody bytes is not good")
	}
	mustNotBe(t, "State", api.Msg{Kind: api.MsgState, State: long})
	mustNotBe(t, "Body", api.Msg{Kind: api.MsgNew, News: []api.Envelope{{Body: long}}})
	mustNotBe(t, "second Body", api.Msg{Kind: api.MsgNew, News: []api.Envelope{{}, {Body: long}}})
}

func TestGoodWithoutOtherFields(t *testing.T) {
	for kind := 1; kind <= lastKind; kind++ {
		for _, x := range turns() {
			m := of(kind)
			x.do(&m)
			if has(kind, x.name) {
				mustBe(t, x.name, m)
			} else {
				mustNotBe(t, x.name, m)
			}
		}
	}
	// Below 0 is not zero either.
	for kind := 1; kind <= lastKind; kind++ {
		for _, turned := range []func(m *api.Msg){
			func(m *api.Msg) { m.Epoch = -1 }, func(m *api.Msg) { m.Leader = -1 },
			func(m *api.Msg) { m.View = -1 }, func(m *api.Msg) { m.Slot = -1 },
			func(m *api.Msg) { m.Vote.Kind = -1 }, func(m *api.Msg) { m.Change.Epoch = -1 },
			func(m *api.Msg) { m.Change.Leader = -1 }, func(m *api.Msg) { m.Change.View = -1 },
			func(m *api.Msg) { m.Cert.Vote.Kind = -1 }, func(m *api.Msg) { m.Cert.Vote.Slot = -1 },
		} {
			m := of(kind)
			turned(&m)
			mustNotBe(t, "below 0", m)
		}
	}
}

// emptied has empty lists instead of those without an element.
func emptied(m api.Msg) api.Msg {
	m.Batch.Requests = append([]api.Request{}, m.Batch.Requests...)
	m.Change.Held = append([]api.Held{}, m.Change.Held...)
	for i := range m.Change.Held {
		h := &m.Change.Held[i]
		h.Batch.Requests = append([]api.Request{}, h.Batch.Requests...)
		h.Cert.Signs = append([]api.Sign{}, h.Cert.Signs...)
	}
	m.News = append([]api.Envelope{}, m.News...)
	m.Cert.Signs = append([]api.Sign{}, m.Cert.Signs...)
	m.Signs = append([]api.Sign{}, m.Signs...)
	return m
}

func TestEmptyListsAreNoLists(t *testing.T) {
	l := append(many(11, 20), full()...)
	for kind := 1; kind <= lastKind; kind++ {
		l = append(l, api.Msg{Kind: kind})
	}
	l = append(l, api.Msg{Kind: api.MsgChange, Change: api.Change{Held: []api.Held{{Cert: api.Cert{Vote: api.Vote{Kind: 1}}}}}})
	for _, m := range l {
		x := emptied(m)
		if Good(x) != Good(m) || !Same(x, m) || !Same(m, x) {
			t.Errorf("kind %d: Good %v with empty lists, %v with none", m.Kind, Good(x), Good(m))
		}
		a, errA := Encode(m)
		b, errB := Encode(x)
		if a != b || errA != errB {
			t.Errorf("kind %d: %x, %d with none, %x, %d with empty lists", m.Kind, a, int(errA), b, int(errB))
		}
	}
}

// P13.1, Same

func mustPart(t *testing.T, name string, a, b api.Msg) {
	t.Helper()
	if Same(a, b) || Same(b, a) {
		t.Errorf("kind %d: Same though %s parts them", a.Kind, name)
	}
}

func TestSameOfTheSame(t *testing.T) {
	a, b := append(many(5, 20), full()...), append(many(5, 20), full()...)
	for i := range a {
		if !Same(a[i], b[i]) || !Same(a[i], a[i]) {
			t.Errorf("kind %d is not the same as itself", a[i].Kind)
		}
	}
	if !Same(api.Msg{}, api.Msg{}) {
		t.Error("two zero ones are not the same")
	}
}

func TestSameOfOthers(t *testing.T) {
	l := full()
	for i, a := range l {
		for j, b := range l {
			if Same(a, b) != (i == j) {
				t.Errorf("kinds %d and %d: Same %v", a.Kind, b.Kind, Same(a, b))
			}
		}
	}
	for i := range 2 {
		a := api.Msg{Kind: i}
		mustPart(t, "Kind", a, api.Msg{Kind: 7})
		for _, x := range turns() {
			b := a
			x.do(&b)
			mustPart(t, x.name, a, b)
		}
	}
}

func TestSameAtEachDepth(t *testing.T) {
	for kind := 1; kind <= lastKind; kind++ {
		for _, x := range turns() {
			m := of(kind)
			x.do(&m)
			mustPart(t, x.name, of(kind), m)
		}
	}
	for _, x := range spots() {
		for _, n := range []int{math.MinInt, -1, math.MaxInt} {
			m := of(x.kind)
			*x.at(&m) = n
			mustPart(t, x.name, of(x.kind), m)
		}
	}
	for _, b := range batches() {
		inBatch := func(name string, do func(b *api.Batch)) {
			m := of(b.kind)
			do(b.at(&m))
			mustPart(t, b.name+name, of(b.kind), m)
		}
		inBatch(".Noop", func(b *api.Batch) { b.Noop = true })
		inBatch(" without the last", func(b *api.Batch) { b.Requests = b.Requests[:1] })
		inBatch(" turned about", func(b *api.Batch) { slices.Reverse(b.Requests) })
		for i := range 2 {
			inBatch(".Data", func(b *api.Batch) { b.Requests[i].Data += "x" })
			inBatch(".Tag", func(b *api.Batch) { b.Requests[i].Tag[15]++ })
		}
	}
	for _, v := range votes() {
		m := of(v.kind)
		v.at(&m).Digest[31]++
		mustPart(t, v.name+".Digest", of(v.kind), m)
	}
	for _, l := range signLists() {
		inSigns := func(name string, do func(l *[]api.Sign)) {
			m := of(l.kind)
			do(l.at(&m))
			mustPart(t, l.name+name, of(l.kind), m)
		}
		inSigns(" none", func(l *[]api.Sign) { *l = nil })
		inSigns(" without the last", func(l *[]api.Sign) { *l = (*l)[:1] })
		inSigns(" turned about", func(l *[]api.Sign) { slices.Reverse(*l) })
		for i := range 2 {
			inSigns(" Tag", func(l *[]api.Sign) { (*l)[i].Tag[15]++ })
		}
	}
}

func TestSameOfNewsAndHeld(t *testing.T) {
	for name, do := range map[string]func(m *api.Msg){
		"none":         func(m *api.Msg) { m.News = nil },
		"one":          func(m *api.Msg) { m.News = m.News[:1] },
		"turned about": func(m *api.Msg) { slices.Reverse(m.News) },
		"Body":         func(m *api.Msg) { m.News[1].Body += "x" },
		"first Body":   func(m *api.Msg) { m.News[0].Body = "" },
		"Tag":          func(m *api.Msg) { m.News[1].Tag[0]++ },
		"first Tag":    func(m *api.Msg) { m.News[0].Tag[15]++ },
	} {
		m := of(api.MsgNew)
		do(&m)
		mustPart(t, "News "+name, of(api.MsgNew), m)
	}
	for name, do := range map[string]func(c *api.Change){
		"none":         func(c *api.Change) { c.Held = nil },
		"two":          func(c *api.Change) { c.Held = c.Held[:2] },
		"turned about": func(c *api.Change) { c.Held[0], c.Held[1] = c.Held[1], c.Held[0] },
		"more than nothing": func(c *api.Change) {
			c.Held[1].Batch.Noop = false
		},
	} {
		m := of(api.MsgChange)
		do(&m.Change)
		mustPart(t, "Held "+name, of(api.MsgChange), m)
	}
}

// P13.2, Encode

func TestEncodeByTheTable(t *testing.T) {
	tag := strings.Repeat("t", 16)
	sum := strings.Repeat("d", 32)
	vote := api.Vote{Kind: 2, Epoch: 256, View: 0, Slot: 1 << 40, Digest: api.Digest([]byte(sum))}
	voteBytes := "\x01\x02" + "\x02\x01\x00" + "\x00" + "\x06\x01\x00\x00\x00\x00\x00" + sum
	asked := api.Batch{Requests: []api.Request{{Client: 8, Num: 0, Data: "ab", Tag: api.Tag([]byte(tag))}}}
	askedBytes := "\x01\x02" + "\x01\x08" + "\x00" + "\x01\x02ab" + tag
	signs := []api.Sign{{Node: 64, Tag: api.Tag([]byte(tag))}, {}}
	signBytes := "\x01\x02" + "\x01\x40" + tag + "\x00" + strings.Repeat("\x00", 16)
	cert := api.Cert{Vote: vote, Signs: signs}
	for _, x := range []struct {
		m    api.Msg
		want string
	}{
		{api.Msg{Kind: api.MsgPropose, Epoch: 1 << 20, Slot: 7, Batch: asked}, "\x01\x01" + "\x03\x10\x00\x00" + "\x01\x07" + askedBytes},
		{api.Msg{Kind: api.MsgPropose, Batch: api.Batch{Noop: true}}, "\x01\x01\x00\x00\x00"},
		{api.Msg{Kind: api.MsgPropose}, "\x01\x01\x00\x00\x01\x01"},
		{api.Msg{Kind: api.MsgVote, Vote: vote}, "\x01\x02" + voteBytes},
		{api.Msg{Kind: api.MsgChange, Change: api.Change{Epoch: 3, Leader: 2, View: 1, Held: []api.Held{{Batch: asked, Cert: cert}, {Batch: api.Batch{Noop: true}, Cert: api.Cert{Vote: vote}}}}},
			"\x01\x03" + "\x01\x03" + "\x01\x02" + "\x01\x01" + "\x01\x02" + askedBytes + voteBytes + signBytes + "\x00" + voteBytes + "\x00"},
		{api.Msg{Kind: api.MsgChange}, "\x01\x03\x00\x00\x00\x00"},
		{api.Msg{Kind: api.MsgNew, Epoch: 3, Leader: 2, View: 1, News: []api.Envelope{{From: 5, Body: "xyz", Tag: api.Tag([]byte(tag))}}},
			"\x01\x04" + "\x01\x03" + "\x01\x02" + "\x01\x01" + "\x01\x01" + "\x01\x05" + "\x01\x03xyz" + tag},
		{api.Msg{Kind: api.MsgNew}, "\x01\x04\x00\x00\x00\x00"},
		{api.Msg{Kind: api.MsgMark, Epoch: 9, Digest: api.Digest([]byte(sum))}, "\x01\x05" + "\x01\x09" + sum},
		{api.Msg{Kind: api.MsgStatus, Epoch: 2, Slot: 9}, "\x01\x06\x01\x02\x01\x09"},
		{api.Msg{Kind: api.MsgEntry, Batch: asked, Cert: cert}, "\x01\x07" + askedBytes + voteBytes + signBytes},
		{api.Msg{Kind: api.MsgState, State: "st", Signs: signs}, "\x01\x08" + "\x01\x02st" + signBytes},
		{api.Msg{Kind: api.MsgState}, "\x01\x08\x00\x00"},
	} {
		if got := encoded(t, x.m); got != x.want {
			t.Errorf("kind %d: %x, want %x", x.m.Kind, got, x.want)
		}
		if got, err := Decode(x.want); !Same(got, x.m) || err != api.OK {
			t.Errorf("kind %d: read as %+v, %d", x.m.Kind, got, int(err))
		}
	}
}

func TestEncodeAtMaxBody(t *testing.T) {
	// Ahead of a state stand two bytes of the kind and four of its length, behind it one of no signs.
	state := func(bytes int) api.Msg { return api.Msg{Kind: api.MsgState, State: strings.Repeat("s", bytes-7)} }
	s := encoded(t, state(api.MaxBody))
	if len(s) != api.MaxBody || s != joined(partsOf(state(api.MaxBody))) {
		t.Errorf("%d bytes", len(s))
	}
	if m, err := Decode(s); !Same(m, state(api.MaxBody)) || err != api.OK {
		t.Errorf("Decode of MaxBody bytes: %d", int(err))
	}
	for _, more := range []int{1, 2, 6, 7} {
		if s, err := Encode(state(api.MaxBody + more)); s != "" || err != api.ErrLong {
			t.Errorf("%d more: %d bytes, %d", more, len(s), int(err))
		}
	}
	mustNotBe(t, "a state that is too long goes ahead of too many bytes", state(api.MaxBody+8))
	// With a sign there are two bytes of how many, two of its node, sixteen of its tag.
	signed := func(bytes int) api.Msg {
		return api.Msg{Kind: api.MsgState, State: strings.Repeat("s", bytes-26), Signs: []api.Sign{{Node: 1}}}
	}
	if s := encoded(t, signed(api.MaxBody)); len(s) != api.MaxBody {
		t.Errorf("%d bytes", len(s))
	}
	for more := 1; more <= 20; more++ {
		if s, err := Encode(signed(api.MaxBody + more)); s != "" || err != api.ErrLong {
			t.Errorf("%d more: %d bytes, %d", more, len(s), int(err))
		}
	}
}

func TestEncodeOfLongNews(t *testing.T) {
	// Ahead of the first one's body stand the kind's two bytes, three numbers, how many (2), From and the body's length (4); behind it its tag, then From, length, tag of the second.
	const around = 2 + 3 + 2 + 1 + 4 + 16 + 1 + 4 + 16
	news := func(first, second int) api.Msg {
		return api.Msg{Kind: api.MsgNew, News: []api.Envelope{{Body: strings.Repeat("a", first)}, {Body: strings.Repeat("b", second)}}}
	}
	if s := encoded(t, news(api.MaxBody/2, api.MaxBody/2-around)); len(s) != api.MaxBody {
		t.Errorf("%d bytes", len(s))
	}
	for _, m := range []api.Msg{news(api.MaxBody/2, api.MaxBody/2-around+1), news(api.MaxBody, 0), news(0, api.MaxBody), news(api.MaxBody, api.MaxBody)} {
		if s, err := Encode(m); s != "" || err != api.ErrLong {
			t.Errorf("%d bytes, %d", len(s), int(err))
		}
	}
	all := api.Msg{Kind: api.MsgNew, News: make([]api.Envelope, 64)}
	body := strings.Repeat("x", api.MaxBody)
	for i := range all.News {
		all.News[i].Body = body
	}
	if s, err := Encode(all); s != "" || err != api.ErrLong {
		t.Errorf("%d bytes, %d", len(s), int(err))
	}
	all.Slot = 1
	mustNotBe(t, "a field that is not its own goes ahead of too many bytes", all)
}

// P13.2, Decode

func TestDecodeOfOneShorterAndOneLonger(t *testing.T) {
	for _, m := range append(full(), many(3, 2)...) {
		s := encoded(t, m)
		for n := range s {
			mustFail(t, "shorter", s[:n], api.ErrCut)
		}
		for _, more := range []string{"\x00", "\x01", "\xff", s} {
			mustFail(t, "longer", s+more, api.ErrMore)
		}
	}
	mustFail(t, "nothing", "", api.ErrCut)
}

// Each number of each message: in other forms, above what it may be, and cut.
func TestDecodeOfEachNumber(t *testing.T) {
	for _, m := range full() {
		parts := partsOf(m)
		for i, p := range parts {
			if !p.number {
				continue
			}
			digits := numberBytes(p.n)[1:]
			k := byte(len(digits))
			for _, x := range []struct {
				name, instead string
				want          api.Errno
			}{
				{"a leading zero", string([]byte{k + 1, 0}) + digits, api.ErrForm},
				{"two leading zeros", string([]byte{k + 2, 0, 0}) + digits, api.ErrForm},
				{"more than eight bytes", "\x09" + digits, api.ErrForm},
				{"the most bytes", "\xff" + digits, api.ErrForm},
				{"above the greatest int", "\x08\x80\x00\x00\x00\x00\x00\x00\x00", api.ErrForm},
				{"the greatest of eight bytes", "\x08\xff\xff\xff\xff\xff\xff\xff\xff", api.ErrForm},
				{"one above the greatest", numberBytes(p.most + 1), api.ErrLong},
				{"the greatest int", numberBytes(math.MaxInt), api.ErrLong},
			} {
				s := instead(parts, i, x.instead)
				mustFail(t, p.name+", "+x.name, s, x.want)
				mustFail(t, p.name+", "+x.name+" with nothing behind", joined(parts[:i])+x.instead, x.want)
				mustFail(t, p.name+", "+x.name+" with more behind", s+"\x00", x.want)
			}
			mustFail(t, p.name+", cut", joined(parts[:i]), api.ErrCut)
			mustFail(t, p.name+", cut behind its first byte", joined(parts[:i])+"\x08", api.ErrCut)
		}
	}
}

// A number as great as it may be is taken, whatever the message has it for.
func TestDecodeOfTheGreatest(t *testing.T) {
	for _, x := range spots() {
		m := of(x.kind)
		*x.at(&m) = x.most
		if got, err := Decode(joined(partsOf(m))); !Same(got, m) || err != api.OK {
			t.Errorf("kind %d, %s: %d", x.kind, x.name, int(err))
		}
	}
	held := func() api.Held { return api.Held{Batch: of(7).Batch, Cert: of(7).Cert} }
	for _, m := range []api.Msg{
		{Kind: api.MsgNew, News: make([]api.Envelope, 64)},
		{Kind: api.MsgState, Signs: make([]api.Sign, 64)},
		{Kind: api.MsgEntry, Cert: api.Cert{Vote: api.Vote{Kind: 1}, Signs: make([]api.Sign, 64)}},
		{Kind: api.MsgPropose, Batch: api.Batch{Requests: make([]api.Request, 4)}},
		{Kind: api.MsgChange, Change: api.Change{Held: []api.Held{held(), held(), held(), held()}}},
	} {
		if got, err := Decode(joined(partsOf(m))); !Same(got, m) || err != api.OK {
			t.Errorf("kind %d: %d", m.Kind, int(err))
		}
	}
}

func TestDecodeOfKind0(t *testing.T) {
	for _, s := range []string{"\x00", "\x00\x00", "\x00\x01\x02\x01\x09", "\x00\xff", "\x00\x01\x00", "\x00" + strings.Repeat("x", api.MaxBody-1)} {
		mustFail(t, "kind 0", s, api.ErrMessage)
	}
	mustFail(t, "kind 0 in another form", "\x01\x00", api.ErrForm)
	mustFail(t, "kind 9", "\x01\x09", api.ErrLong)
	mustFail(t, "kind 9 with more behind", "\x01\x09\x00\x00", api.ErrLong)
	mustFail(t, "no kind", "\x01", api.ErrCut)
}

// What stands behind a vote's Kind 0 counts no more; what is wrong ahead of it is told.
func TestDecodeOfAVotesKind0(t *testing.T) {
	for _, m := range full() {
		parts := partsOf(m)
		for i, p := range parts {
			if p.name != "Vote's Kind" {
				continue
			}
			ahead, behind := joined(parts[:i])+"\x00", joined(parts[i+1:])
			for _, s := range []string{behind, "", "\x01", "\xff", "\x01\x00", behind[:len(behind)-1], behind + "x"} {
				mustFail(t, "Kind 0", ahead+s, api.ErrMessage)
			}
			mustFail(t, "Kind 0 in another form", instead(parts, i, "\x01\x00"), api.ErrForm)
			mustFail(t, "Kind 3", instead(parts, i, "\x01\x03"), api.ErrLong)
			for j := 0; j < i; j++ {
				if parts[j].number {
					mustFail(t, "an error ahead", joined(parts[:j])+numberBytes(parts[j].most+1)+joined(parts[j+1:i])+"\x00"+behind, api.ErrLong)
				}
			}
		}
	}
	mustFail(t, "a vote of Kind 0 alone", "\x01\x02\x00", api.ErrMessage)
}

func TestDecodeOfTooManyBytes(t *testing.T) {
	long := strings.Repeat("\x00", api.MaxBody+1)
	mustFail(t, "kind 0", long, api.ErrLong)
	mustFail(t, "more behind a message", "\x01\x06\x01\x02\x01\x09"+long, api.ErrLong)
	mustFail(t, "no number", "\xff"+long, api.ErrLong)
	mustFail(t, "a cut one", "\x01\x08\x04\x10\x00\x00\x00"+long, api.ErrLong)
	state := joined(partsOf(api.Msg{Kind: api.MsgState, State: long[:api.MaxBody-6]}))
	if len(state) != api.MaxBody+1 {
		t.Fatal(len(state))
	}
	mustFail(t, "a message but for its length", state, api.ErrLong)
	mustFail(t, "MaxBody bytes of it", state[:api.MaxBody], api.ErrCut)
	mustFail(t, "MaxBody bytes, more behind", "\x01\x06\x01\x02\x01\x09"+long[:api.MaxBody-6], api.ErrMore)
}

// A text that says to be longer than all that may be is refused for that, ahead of its being cut.
func TestDecodeOfLongTexts(t *testing.T) {
	mustFail(t, "State", "\x01\x08\x03\x40\x00\x01", api.ErrLong)
	mustFail(t, "State", "\x01\x08\x03\x40\x00\x00", api.ErrCut)
	mustFail(t, "Body", "\x01\x04\x00\x00\x00\x01\x01\x00\x03\x40\x00\x01", api.ErrLong)
	mustFail(t, "Body", "\x01\x04\x00\x00\x00\x01\x01\x00\x03\x40\x00\x00", api.ErrCut)
	mustFail(t, "Data", "\x01\x01\x00\x00\x01\x02\x00\x00\x01\x41", api.ErrLong)
	mustFail(t, "Data", "\x01\x01\x00\x00\x01\x02\x00\x00\x01\x40", api.ErrCut)
}

// P13.3

func TestVote(t *testing.T) {
	v := api.Vote{Kind: api.Commit, Epoch: 2, View: 0, Slot: 256, Digest: api.Digest{0xaa}}
	want := "\x01\x02" + "\x01\x02" + "\x01\x02" + "\x00" + "\x02\x01\x00" + "\xaa" + strings.Repeat("\x00", 31)
	if got := Vote(v); got != want {
		t.Errorf("%x, want %x", got, want)
	}
	for _, x := range spots() {
		if x.kind != api.MsgVote {
			continue
		}
		for _, n := range []int{x.least, x.most} {
			m := of(api.MsgVote)
			*x.at(&m) = n
			if got := Vote(m.Vote); got != joined(partsOf(m)) || got != encoded(t, m) {
				t.Errorf("%s %d: %x", x.name, n, got)
			}
		}
		for _, n := range []int{math.MinInt, -1, x.least - 1, x.most + 1, math.MaxInt} {
			m := of(api.MsgVote)
			*x.at(&m) = n
			if got := Vote(m.Vote); got != "" {
				t.Errorf("%s %d: %x", x.name, n, got)
			}
		}
	}
	if got := Vote(api.Vote{}); got != "" {
		t.Errorf("a zero vote: %x", got)
	}
}

func TestMark(t *testing.T) {
	d := api.Digest{1, 31: 9}
	for _, x := range []struct {
		epoch int
		want  string
	}{
		{0, "\x01\x05\x00" + string(d[:])},
		{1, "\x01\x05\x01\x01" + string(d[:])},
		{255, "\x01\x05\x01\xff" + string(d[:])},
		{1 << 20, "\x01\x05\x03\x10\x00\x00" + string(d[:])},
		{1<<20 + 1, ""},
		{-1, ""},
		{math.MinInt, ""},
		{math.MaxInt, ""},
	} {
		if got := Mark(x.epoch, d); got != x.want {
			t.Errorf("Mark(%d): %x, want %x", x.epoch, got, x.want)
		}
		if x.want == "" {
			continue
		}
		if m, err := Decode(x.want); err != api.OK || !Same(m, api.Msg{Kind: api.MsgMark, Epoch: x.epoch, Digest: d}) {
			t.Errorf("Mark(%d) is read as %+v, %d", x.epoch, m, int(err))
		}
	}
}

// P13.4

func TestBack(t *testing.T) {
	for _, m := range append(many(1, 150), full()...) {
		mustBe(t, "one of many", m)
		s, err := Encode(m)
		if err != api.OK {
			continue
		}
		x, err := Decode(s)
		if err != api.OK || !Same(x, m) || !Good(x) {
			t.Errorf("kind %d: %x is read as %+v, %d", m.Kind, s, x, int(err))
		}
		if !reflect.DeepEqual(emptied(x), emptied(m)) {
			t.Errorf("kind %d: Same tells too little of %+v and %+v", m.Kind, x, m)
		}
	}
}

// P13.5

// mustHaveOneForm fails where bytes are taken that are not those of the message; it tells whether they are taken.
func mustHaveOneForm(t *testing.T, s string) bool {
	t.Helper()
	m, err := Decode(s)
	if err != api.OK {
		return false
	}
	if again, err := Encode(m); again != s || err != api.OK {
		t.Errorf("%x is taken, and encoded as %x, %d", s, again, int(err))
	}
	return true
}

func TestOneForm(t *testing.T) {
	below := chance(17)
	taken := 0
	for _, m := range append(many(2, 12), full()...) {
		s := encoded(t, m)
		if !mustHaveOneForm(t, s) {
			t.Errorf("kind %d is not taken", m.Kind)
		}
		for range 200 {
			b := []byte(s)
			for range 1 + below(3) {
				b[below(min(len(b), 1+below(len(b))))] = byte(below(1 << (1 + below(8))))
			}
			if mustHaveOneForm(t, string(b)) {
				taken++
			}
		}
	}
	if taken < 1000 {
		t.Errorf("only %d turned ones were taken", taken)
	}
}

func TestOneFormOfShortTexts(t *testing.T) {
	small := []byte{0, 1, 2, 3, 4, 5, 6, 7, 8, 9}
	var grow func(ahead []byte)
	grow = func(ahead []byte) {
		mustHaveOneForm(t, string(ahead))
		if len(ahead) == 5 {
			return
		}
		for _, x := range small {
			grow(append(slices.Clip(ahead), x))
		}
	}
	grow(nil)
	for epoch := range 256 {
		for slot := range 256 {
			s := string([]byte{1, 6, 1, byte(epoch), 1, byte(slot)})
			if mustHaveOneForm(t, s) != (epoch > 0 && slot > 0) {
				t.Errorf("%x", s)
			}
		}
	}
}

// P13.6

func TestNoBeginning(t *testing.T) {
	below := chance(23)
	l := many(4, 25)
	for _, m := range l {
		s := encoded(t, m)
		for range 40 {
			if _, err := Decode(s[:below(len(s))]); err == api.OK {
				t.Errorf("kind %d: a beginning of it is a message", m.Kind)
			}
		}
		for range 10 {
			more := encoded(t, l[below(len(l))])
			if _, err := Decode(s + more[:1+below(len(more))]); err == api.OK {
				t.Errorf("kind %d: with more behind it is a message", m.Kind)
			}
		}
	}
}

// What is handed in stays as it was; what lies behind a list's length is nobody's.

// spared has lists with the same elements, and elements that may not be in the room behind them.
func spared(m api.Msg) api.Msg {
	m.Batch = sparedBatch(m.Batch)
	m.Cert = sparedCert(m.Cert)
	held := make([]api.Held, 0, len(m.Change.Held)+2)
	for _, h := range m.Change.Held {
		held = append(held, api.Held{Batch: sparedBatch(h.Batch), Cert: sparedCert(h.Cert)})
	}
	m.Change.Held = behind(held, api.Held{Batch: api.Batch{Noop: true, Requests: make([]api.Request, 9)}})
	m.News = behind(m.News, api.Envelope{From: -7, Body: "behind"})
	m.Signs = behind(m.Signs, api.Sign{Node: -7})
	return m
}

func sparedBatch(b api.Batch) api.Batch {
	b.Requests = behind(b.Requests, api.Request{Client: -7})
	return b
}

func sparedCert(c api.Cert) api.Cert {
	c.Signs = behind(c.Signs, api.Sign{Node: -7})
	return c
}

// behind is a list with x in the room behind it.
func behind[T any](l []T, x T) []T {
	whole := append(slices.Clone(l), x, x)
	return whole[:len(l)]
}

// whole is a message with what lies behind its lists' lengths.
func whole(m api.Msg) api.Msg {
	m.Batch.Requests = m.Batch.Requests[:cap(m.Batch.Requests)]
	m.Cert.Signs = m.Cert.Signs[:cap(m.Cert.Signs)]
	m.Change.Held = slices.Clone(m.Change.Held[:cap(m.Change.Held)])
	for i := range m.Change.Held {
		h := &m.Change.Held[i]
		h.Batch.Requests = h.Batch.Requests[:cap(h.Batch.Requests)]
		h.Cert.Signs = h.Cert.Signs[:cap(h.Cert.Signs)]
	}
	m.News = m.News[:cap(m.News)]
	m.Signs = m.Signs[:cap(m.Signs)]
	return m
}

func TestArgumentsStay(t *testing.T) {
	l := append(many(8, 10), full()...)
	again := append(many(8, 10), full()...)
	for i, m := range l {
		x, kept := spared(m), spared(again[i])
		s, err := Encode(x)
		if s != encoded(t, m) || err != api.OK || !Good(x) || !Same(x, m) || !Same(m, x) {
			t.Errorf("kind %d: what lies behind the lists counts", m.Kind)
		}
		if !reflect.DeepEqual(whole(x), whole(kept)) {
			t.Errorf("kind %d: what was handed in is another one now", m.Kind)
		}
	}
}

func TestDecodeTellsNewMemory(t *testing.T) {
	for kind := 1; kind <= lastKind; kind++ {
		s := encoded(t, of(kind))
		first, _ := Decode(s)
		second, _ := Decode(s)
		for _, x := range spots() {
			if x.kind == kind {
				*x.at(&first) = -9
			}
		}
		if !Same(second, of(kind)) {
			t.Errorf("kind %d: two answers share memory", kind)
		}
		if x := first; len(x.Signs) > 0 {
			_ = append(x.Signs[:1], api.Sign{Node: 5})
		}
		if third, err := Decode(s); !Same(third, of(kind)) || err != api.OK {
			t.Errorf("kind %d: an answer is kept", kind)
		}
	}
	// Two lists of one answer are each their own.
	m, _ := Decode(encoded(t, of(api.MsgChange)))
	want := of(api.MsgChange)
	_ = append(m.Change.Held[0].Cert.Signs, api.Sign{Node: 60})
	_ = append(m.Change.Held[0].Batch.Requests, api.Request{Client: 7})
	m.Change.Held[0].Cert.Signs[1].Node = 61
	m.Change.Held[0].Batch.Requests[1].Num = 62
	want.Change.Held[0].Cert.Signs[1].Node = 61
	want.Change.Held[0].Batch.Requests[1].Num = 62
	if !Same(m, want) {
		t.Errorf("two lists of one answer share memory: %+v", m)
	}
}
