package record

import (
	"bytes"
	"fmt"
	"math"
	"reflect"
	"slices"
	"strings"
	"testing"

	"raddle/api"
)

// lastKind is the greatest kind of records.
const lastKind = 5

// of is a record of a kind that may be, with unlike numbers in all that it has.
func of(kind int) api.Rec {
	b := api.Batch{Requests: []api.Request{{Client: 1, Num: 2, Data: "x", Tag: api.Tag{1, 15: 2}}, {Client: 3, Num: 300, Tag: api.Tag{3}}}}
	c := api.Cert{
		Vote:  api.Vote{Kind: api.Commit, Epoch: 4, View: 5, Slot: 600, Digest: api.Digest{6, 31: 7}},
		Signs: []api.Sign{{Node: 0, Tag: api.Tag{8}}, {Node: 7, Tag: api.Tag{15: 9}}},
	}
	switch kind {
	case api.RecAccept:
		return api.Rec{Kind: kind, Slot: 8, View: 9, Batch: b}
	case api.RecHeld, api.RecEntry:
		return api.Rec{Kind: kind, Batch: b, Cert: c}
	case api.RecView:
		return api.Rec{Kind: kind, Leader: 10, View: 11}
	case api.RecState:
		return api.Rec{Kind: kind, State: "state", Signs: c.Signs}
	}
	return api.Rec{Kind: kind}
}

// turns are changes of one part of a record each, told by the field in which they are.
func turns() []struct {
	field string
	do    func(r *api.Rec)
} {
	type turn = struct {
		field string
		do    func(r *api.Rec)
	}
	return []turn{
		{"Leader", func(r *api.Rec) { r.Leader++ }},
		{"View", func(r *api.Rec) { r.View++ }},
		{"Slot", func(r *api.Rec) { r.Slot++ }},
		{"Batch", func(r *api.Rec) { r.Batch = api.Batch{Noop: true} }},
		{"Batch", func(r *api.Rec) { r.Batch = api.Batch{Requests: []api.Request{{}}} }},
		{"Cert", func(r *api.Rec) { r.Cert.Vote.Kind = api.Prepare }},
		{"Cert", func(r *api.Rec) { r.Cert.Vote.Epoch++ }},
		{"Cert", func(r *api.Rec) { r.Cert.Vote.View++ }},
		{"Cert", func(r *api.Rec) { r.Cert.Vote.Slot++ }},
		{"Cert", func(r *api.Rec) { r.Cert.Vote.Digest[31]++ }},
		{"Cert", func(r *api.Rec) { r.Cert.Signs = []api.Sign{{}} }},
		{"State", func(r *api.Rec) { r.State += "\x00" }},
		{"Signs", func(r *api.Rec) { r.Signs = []api.Sign{{}} }},
	}
}

// has tells whether a kind has a field, by the chapter's words.
func has(kind int, field string) bool {
	return slices.Contains([][]string{{}, {"Slot", "View", "Batch"}, {"Batch", "Cert"}, {"Leader", "View"}, {"Batch", "Cert"}, {"State", "Signs"}}[kind], field)
}

// spots are the numbers of records, each with its kind and the greatest one that it may be.
func spots() []struct {
	name string
	kind int
	most int
	at   func(r *api.Rec) *int
} {
	type spot = struct {
		name string
		kind int
		most int
		at   func(r *api.Rec) *int
	}
	l := []spot{
		{"Slot", 1, api.MaxNum, func(r *api.Rec) *int { return &r.Slot }},
		{"View", 1, api.MaxNum, func(r *api.Rec) *int { return &r.View }},
		{"Leader", 3, api.MaxNodes, func(r *api.Rec) *int { return &r.Leader }},
		{"View", 3, api.MaxNum, func(r *api.Rec) *int { return &r.View }},
		{"Node", 5, api.MaxNodes, func(r *api.Rec) *int { return &r.Signs[1].Node }},
	}
	for _, kind := range []int{2, 4} {
		l = append(l,
			spot{"Epoch", kind, api.MaxEpoch, func(r *api.Rec) *int { return &r.Cert.Vote.Epoch }},
			spot{"vote's View", kind, api.MaxNum, func(r *api.Rec) *int { return &r.Cert.Vote.View }},
			spot{"vote's Slot", kind, api.MaxNum, func(r *api.Rec) *int { return &r.Cert.Vote.Slot }},
			spot{"Node", kind, api.MaxNodes, func(r *api.Rec) *int { return &r.Cert.Signs[1].Node }})
	}
	for _, kind := range []int{1, 2, 4} {
		l = append(l,
			spot{"Client", kind, api.MaxClients, func(r *api.Rec) *int { return &r.Batch.Requests[1].Client }},
			spot{"Num", kind, api.MaxNum, func(r *api.Rec) *int { return &r.Batch.Requests[1].Num }})
	}
	return l
}

// with is a record of a kind with something otherwise.
func with(kind int, do func(r *api.Rec)) api.Rec {
	r := of(kind)
	do(&r)
	return r
}

func mustBe(t *testing.T, name string, r api.Rec) {
	t.Helper()
	if !Good(r) {
		t.Errorf("kind %d, %s: not good", r.Kind, name)
	}
	b, err := Encode(r)
	if err != api.OK || string(b) != laid(r) {
		t.Errorf("kind %d, %s: %.500x, %d, want %.500x", r.Kind, name, b, int(err), laid(r))
	}
}

func mustNotBe(t *testing.T, name string, r api.Rec) {
	t.Helper()
	if Good(r) {
		t.Errorf("kind %d, %s: good", r.Kind, name)
	}
	if b, err := Encode(r); err != api.ErrRecord || len(b) != 0 {
		t.Errorf("kind %d, %s: %.500x, %d, want ErrRecord", r.Kind, name, b, int(err))
	}
}

func mustFail(t *testing.T, name, s string, want api.Errno) {
	t.Helper()
	r, err := Decode([]byte(s))
	if err != want {
		t.Errorf("%s: %.40x: %d, want %d", name, s, int(err), int(want))
	}
	if !reflect.DeepEqual(r, api.Rec{}) {
		t.Errorf("%s: %.500q beside an error", name, fmt.Sprintf("%+v", r))
	}
}

func mustRead(t *testing.T, name, s string, want api.Rec) {
	t.Helper()
	if r, err := Decode([]byte(s)); err != api.OK || !Same(r, want) {
		t.Errorf("%s: %d, %.500q, want %.500q", name, int(err), fmt.Sprintf("%+v", r), fmt.Sprintf("%+v", want))
	}
}

// The chapter's example.

func TestExample(t *testing.T) {
	b, err := Encode(api.Rec{Kind: api.RecView, Leader: 2, View: 1})
	if err != api.OK || string(b) != "\x01\x03\x01\x02\x01\x01" {
		t.Errorf("%x, %d", b, int(err))
	}
}

// P24.1, Good

func TestGoodOfKinds(t *testing.T) {
	for kind := 1; kind <= lastKind; kind++ {
		mustBe(t, "ordinary", of(kind))
	}
	for _, kind := range []int{math.MinInt, -1, 0, 6, 7, 8, math.MaxInt} {
		mustNotBe(t, "of no kind", api.Rec{Kind: kind})
		for like := 1; like <= lastKind; like++ {
			mustNotBe(t, "of no kind", with(like, func(r *api.Rec) { r.Kind = kind }))
		}
	}
	// What each kind may be at least.
	mustBe(t, "least", api.Rec{Kind: api.RecAccept})
	mustBe(t, "least", api.Rec{Kind: api.RecView})
	mustBe(t, "least", api.Rec{Kind: api.RecState})
	for _, kind := range []int{api.RecHeld, api.RecEntry} {
		mustNotBe(t, "without a vote", api.Rec{Kind: kind})
		for vote := -1; vote <= 3; vote++ {
			r := api.Rec{Kind: kind, Cert: api.Cert{Vote: api.Vote{Kind: vote}}}
			if vote == api.Prepare || vote == api.Commit {
				mustBe(t, "least", r)
			} else {
				mustNotBe(t, "a vote of no kind", r)
			}
		}
	}
}

func TestGoodAtTheBounds(t *testing.T) {
	for _, x := range spots() {
		for _, n := range []int{0, 1, x.most - 1, x.most} {
			mustBe(t, x.name, with(x.kind, func(r *api.Rec) { *x.at(r) = n }))
		}
		for _, n := range []int{math.MinInt, -1, x.most + 1, x.most + 2, math.MaxInt} {
			mustNotBe(t, x.name, with(x.kind, func(r *api.Rec) { *x.at(r) = n }))
		}
	}
}

func TestGoodOfBatches(t *testing.T) {
	data := strings.Repeat("d", api.MaxData+1)
	for _, kind := range []int{1, 2, 4} {
		put := func(b api.Batch) api.Rec { return with(kind, func(r *api.Rec) { r.Batch = b }) }
		mustBe(t, "nothing", put(api.Batch{Noop: true}))
		mustBe(t, "no requests", put(api.Batch{}))
		mustBe(t, "the most requests", put(api.Batch{Requests: make([]api.Request, api.MaxRequests)}))
		mustBe(t, "the longest data", put(api.Batch{Requests: []api.Request{{Data: data[1:]}}}))
		mustNotBe(t, "nothing with requests", put(api.Batch{Noop: true, Requests: make([]api.Request, 1)}))
		mustNotBe(t, "too many requests", put(api.Batch{Requests: make([]api.Request, api.MaxRequests+1)}))
		mustNotBe(t, "data too long", put(api.Batch{Requests: []api.Request{{}, {Data: data}}}))
	}
}

func TestGoodOfSigns(t *testing.T) {
	for _, n := range []int{0, 1, 63, 64, 65, 1000} {
		signs := make([]api.Sign, n)
		for _, r := range []api.Rec{
			with(2, func(r *api.Rec) { r.Cert.Signs = signs }),
			with(4, func(r *api.Rec) { r.Cert.Signs = signs }),
			with(5, func(r *api.Rec) { r.Signs = signs }),
		} {
			if n <= 64 {
				mustBe(t, "signs", r)
			} else {
				mustNotBe(t, "too many signs", r)
			}
		}
	}
}

func TestGoodWithoutOtherFields(t *testing.T) {
	for kind := 1; kind <= lastKind; kind++ {
		for _, x := range turns() {
			r := with(kind, x.do)
			if has(kind, x.field) {
				mustBe(t, x.field, r)
			} else {
				mustNotBe(t, x.field, r)
			}
		}
		// Below 0 is not zero either.
		for _, do := range []func(r *api.Rec){
			func(r *api.Rec) { r.Leader = -1 }, func(r *api.Rec) { r.View = -1 }, func(r *api.Rec) { r.Slot = -1 },
			func(r *api.Rec) { r.Cert.Vote.Kind = -1 }, func(r *api.Rec) { r.Cert.Vote.Slot = -1 },
		} {
			mustNotBe(t, "below 0", with(kind, do))
		}
	}
}

// P24.1, Same

func TestSame(t *testing.T) {
	for a := 0; a <= 6; a++ {
		for b := 0; b <= 6; b++ {
			if Same(of(a), of(b)) != (a == b) {
				t.Errorf("kinds %d and %d", a, b)
			}
		}
	}
	for kind := 0; kind <= 6; kind++ {
		for _, x := range turns() {
			r := with(kind, x.do)
			if Same(of(kind), r) || Same(r, of(kind)) || !Same(r, r) {
				t.Errorf("kind %d: %s", kind, x.field)
			}
		}
		if Same(of(kind), with(kind, func(r *api.Rec) { r.Kind = 9 })) {
			t.Errorf("kind %d: Kind", kind)
		}
	}
	for _, x := range spots() {
		for _, n := range []int{math.MinInt, -1, math.MaxInt} {
			if r := with(x.kind, func(r *api.Rec) { *x.at(r) = n }); Same(r, of(x.kind)) || !Same(r, r) {
				t.Errorf("kind %d: %s", x.kind, x.name)
			}
		}
	}
}

func TestSameInLists(t *testing.T) {
	for name, do := range map[string]func(r *api.Rec){
		"Data":               func(r *api.Rec) { r.Batch.Requests[0].Data = "y" },
		"Tag":                func(r *api.Rec) { r.Batch.Requests[1].Tag[15]++ },
		"a request too few":  func(r *api.Rec) { r.Batch.Requests = r.Batch.Requests[:1] },
		"requests turned":    func(r *api.Rec) { slices.Reverse(r.Batch.Requests) },
		"Noop":               func(r *api.Rec) { r.Batch.Noop = true },
		"a sign's tag":       func(r *api.Rec) { r.Cert.Signs[0].Tag[0]++ },
		"a sign too few":     func(r *api.Rec) { r.Cert.Signs = r.Cert.Signs[:1] },
		"signs turned about": func(r *api.Rec) { slices.Reverse(r.Cert.Signs) },
	} {
		if r := with(api.RecHeld, do); Same(r, of(api.RecHeld)) || Same(of(api.RecHeld), r) {
			t.Error(name)
		}
	}
	if Same(with(5, func(r *api.Rec) { slices.Reverse(r.Signs) }), of(5)) {
		t.Error("a state's signs turned about")
	}
}

// Rule 3: a list without an element is one, nil or empty.
func TestEmptyListsAreNoLists(t *testing.T) {
	for kind := 1; kind <= lastKind; kind++ {
		none := api.Rec{Kind: kind}
		if kind == api.RecHeld || kind == api.RecEntry {
			none.Cert.Vote.Kind = api.Commit
		}
		empty := none
		empty.Batch.Requests, empty.Cert.Signs, empty.Signs = []api.Request{}, []api.Sign{}, []api.Sign{}
		if !Same(none, empty) || !Same(empty, none) {
			t.Errorf("kind %d: not the same", kind)
		}
		mustBe(t, "empty lists", empty)
		mustBe(t, "no lists", none)
	}
}

// P24.2, Encode

func TestEncodeByTheWords(t *testing.T) {
	for _, r := range many(24, 200) {
		mustBe(t, "any", r)
	}
	tag := strings.Repeat("\x00", 16)
	for want, r := range map[string]api.Rec{
		"\x01\x01\x00\x00\x00":                                                                {Kind: api.RecAccept, Batch: api.Batch{Noop: true}},
		"\x01\x01\x01\x07\x01\x02\x01\x01":                                                    {Kind: api.RecAccept, Slot: 7, View: 2},
		"\x01\x03\x00\x00":                                                                    {Kind: api.RecView},
		"\x01\x03\x01\x40\x06\x01\x00\x00\x00\x00\x00":                                        {Kind: api.RecView, Leader: 64, View: 1 << 40},
		"\x01\x05\x01\x04\x01\x08\x00\x00":                                                    {Kind: api.RecState},
		"\x01\x05\x01\x19\x01\x08\x01\x01s\x01\x01\x01\x03" + tag:                             {Kind: api.RecState, State: "s", Signs: []api.Sign{{Node: 3}}},
		"\x01\x02\x01\x2a\x01\x07\x00\x01\x01\x00\x00\x01\x09" + tag + tag + "\x00":           {Kind: api.RecHeld, Batch: api.Batch{Noop: true}, Cert: api.Cert{Vote: api.Vote{Kind: 1, Slot: 9}}},
		"\x01\x04\x01\x2b\x01\x07\x01\x01\x01\x02\x00\x01\x09\x00" + tag + tag + "\x00":       {Kind: api.RecEntry, Cert: api.Cert{Vote: api.Vote{Kind: 2, View: 9}}},
		"\x01\x01\x00\x01\x01\x01\x02\x01\x08\x00\x01\x02ab\x01" + strings.Repeat("\x00", 15): {Kind: api.RecAccept, View: 1, Batch: api.Batch{Requests: []api.Request{{Client: 8, Data: "ab", Tag: api.Tag{1}}}}},
	} {
		b, err := Encode(r)
		if err != api.OK || string(b) != want {
			t.Errorf("%+v: %x, %d, want %x", r, b, int(err), want)
		}
		mustRead(t, "by hand", want, r)
	}
}

// stateOf is the record of a state whose bytes are so many: ahead of the state stand two bytes of the kind, four of the text's length, two of the message's kind and four of the state's length, behind it one of no signs.
func stateOf(many int) api.Rec {
	return api.Rec{Kind: api.RecState, State: strings.Repeat("s", many-13)}
}

func TestEncodeAtMaxRecord(t *testing.T) {
	for _, n := range []int{api.MaxRecord - 1, api.MaxRecord} {
		r := stateOf(n)
		b, err := Encode(r)
		if err != api.OK || len(b) != n || string(b) != laid(r) {
			t.Errorf("%d: %d bytes, %d", n, len(b), int(err))
		}
		mustRead(t, "long", string(b), r)
	}
	// Up to six more the message has bytes, but the record is too long; up to thirteen more the state may be, but its message has none.
	for more := 1; more <= 13; more++ {
		r := stateOf(api.MaxRecord + more)
		if b, err := Encode(r); err != api.ErrLong || len(b) != 0 || !Good(r) {
			t.Errorf("%d more: %d bytes, %d", more, len(b), int(err))
		}
		r.Slot = 1
		mustNotBe(t, "ErrRecord goes ahead of ErrLong", r)
	}
	mustNotBe(t, "a state too long", stateOf(api.MaxRecord+14))
	signed := stateOf(api.MaxRecord)
	signed.Signs = make([]api.Sign, 1)
	if b, err := Encode(signed); err != api.ErrLong || len(b) != 0 {
		t.Errorf("%d bytes, %d", len(b), int(err))
	}
}

// P24.2, Decode

func TestDecodeOfOneShorterAndOneLonger(t *testing.T) {
	for kind := 1; kind <= lastKind; kind++ {
		s := laid(of(kind))
		mustRead(t, "whole", s, of(kind))
		for n := range s {
			mustFail(t, "shorter", s[:n], api.ErrCut)
		}
		for _, more := range []string{"\x00", "\x01", "\xff", s} {
			mustFail(t, "longer", s+more, api.ErrMore)
		}
	}
	mustFail(t, "nothing", "", api.ErrCut)
	if _, err := Decode(nil); err != api.ErrCut {
		t.Errorf("nil: %d", int(err))
	}
}

func TestDecodeOfKinds(t *testing.T) {
	mustFail(t, "kind 0", "\x00", api.ErrRecord)
	// Done goes ahead of the kind.
	mustFail(t, "more behind kind 0", "\x00\x00", api.ErrMore)
	mustFail(t, "a text behind kind 0", "\x00"+text(number(8)+"\x00\x00"), api.ErrMore)
	for _, kind := range []int{6, 7, 8, 255, 256, math.MaxInt} {
		mustFail(t, "too great", number(kind), api.ErrLong)
		mustFail(t, "too great", number(kind)+"\x00\x00\x00", api.ErrLong)
	}
	mustFail(t, "a leading zero", "\x02\x00\x01\x00\x00\x00", api.ErrForm)
	mustFail(t, "zero in a byte", "\x01\x00", api.ErrForm)
	mustFail(t, "too many bytes", "\x09\x01", api.ErrForm)
	mustFail(t, "above an int", "\x08"+strings.Repeat("\xff", 8), api.ErrForm)
}

// wrongNumbers are bytes that stand in a number's place, with what a reader tells of them.
func wrongNumbers(most int) map[string]api.Errno {
	return map[string]api.Errno{
		number(most + 1):                     api.ErrLong,
		number(math.MaxInt):                  api.ErrLong,
		"\x01\x00":                           api.ErrForm,
		"\x02\x00\x01":                       api.ErrForm,
		"\x09":                               api.ErrForm,
		"\xff":                               api.ErrForm,
		"\x08\x80" + string(make([]byte, 7)): api.ErrForm,
		"\x08":                               api.ErrCut,
		"":                                   api.ErrCut,
	}
}

func TestDecodeOfNumbers(t *testing.T) {
	for _, x := range []struct {
		name, ahead, behind string
		most                int
	}{
		{"Slot", "\x01\x01", "\x00\x00", api.MaxNum},
		{"accepted View", "\x01\x01\x00", "\x00", api.MaxNum},
		{"how many requests", "\x01\x01\x00\x00", "", api.MaxRequests + 1},
		{"Client", "\x01\x01\x00\x00\x01\x02", "\x00\x00" + strings.Repeat("t", 16), api.MaxClients},
		{"Num", "\x01\x01\x00\x00\x01\x02\x00", "\x00" + strings.Repeat("t", 16), api.MaxNum},
		{"Data", "\x01\x01\x00\x00\x01\x02\x00\x00", strings.Repeat("t", 16), api.MaxData},
		{"Leader", "\x01\x03", "\x00", api.MaxNodes},
		{"View", "\x01\x03\x00", "", api.MaxNum},
	} {
		for s, want := range wrongNumbers(x.most) {
			mustFail(t, x.name, x.ahead+s, want)
			if want != api.ErrCut {
				mustFail(t, x.name, x.ahead+s+x.behind, want)
				mustFail(t, x.name+" with more behind", x.ahead+s+x.behind+"\x00", want)
			}
		}
	}
	for _, x := range spots() {
		r := with(x.kind, func(r *api.Rec) { *x.at(r) = x.most })
		mustRead(t, x.name, laid(r), r)
	}
}

// In a text's place: what a reader tells of its length goes ahead of all that is wrong with the message in it.
func TestDecodeOfTexts(t *testing.T) {
	for _, kind := range []int{2, 4, 5} {
		for s, want := range wrongNumbers(api.MaxBody) {
			mustFail(t, "length", number(kind)+s, want)
		}
		mustFail(t, "cut behind its length", number(kind)+number(api.MaxBody), api.ErrCut)
		mustFail(t, "too long goes ahead of cut", number(kind)+number(api.MaxBody+1), api.ErrLong)
		mustFail(t, "more goes ahead of a wrong message", number(kind)+text("x")+"\x00", api.ErrMore)
		mustFail(t, "an empty text", number(kind)+"\x00", api.ErrRecord)
	}
}

func TestDecodeOfMessages(t *testing.T) {
	entry, state := laid(of(api.RecEntry)), laid(of(api.RecState))
	// Behind the kind and the length of each stands its message.
	inEntry, inState := entry[4:], state[4:]
	mustRead(t, "an entry", number(2)+text(inEntry), of(api.RecHeld))
	mustRead(t, "an entry", number(4)+text(inEntry), of(api.RecEntry))
	mustRead(t, "a state", number(5)+text(inState), of(api.RecState))
	others := []string{
		"\x01\x01\x00\x00\x00", "\x01\x02\x01\x01\x00\x00\x00" + strings.Repeat("d", 32), "\x01\x03\x00\x00\x00\x00",
		"\x01\x04\x00\x00\x00\x00", "\x01\x05\x00" + strings.Repeat("d", 32), "\x01\x06\x00\x00", "\x00", "\x01\x09",
	}
	for _, s := range others {
		for _, kind := range []int{2, 4, 5} {
			mustFail(t, "another message", number(kind)+text(s), api.ErrRecord)
		}
	}
	mustFail(t, "a state held", number(2)+text(inState), api.ErrRecord)
	mustFail(t, "a state as entry", number(4)+text(inState), api.ErrRecord)
	mustFail(t, "an entry as state", number(5)+text(inEntry), api.ErrRecord)
	for kind, s := range map[int]string{2: inEntry, 4: inEntry, 5: inState} {
		for n := range s {
			mustFail(t, "a message that is cut", number(kind)+text(s[:n]), api.ErrRecord)
		}
		mustFail(t, "a message and more", number(kind)+text(s+"\x00"), api.ErrRecord)
	}
	// A message with a number that may not be: a sign's Node, a vote's Kind.
	mustFail(t, "Node", number(5)+text("\x01\x08\x00\x01\x01\x01\x41"+strings.Repeat("t", 16)), api.ErrRecord)
	mustFail(t, "vote's Kind", number(4)+text("\x01\x07\x00\x00\x00\x00\x00"+strings.Repeat("d", 32)+"\x00"), api.ErrRecord)
}

// A text of MaxBody bytes is read, though the record around it is longer than one may be that is told.
func TestDecodeOfTheLongestText(t *testing.T) {
	r := stateOf(api.MaxBody + 6)
	s := laid(r)
	if len(s) != api.MaxBody+6 {
		t.Fatal(len(s))
	}
	mustRead(t, "the longest text", s, r)
	mustFail(t, "longer", laid(stateOf(api.MaxBody+7)), api.ErrLong)
}

// P24.3

func TestSince(t *testing.T) {
	below := chance(3)
	for range 500 {
		var l []api.Rec
		for i := range below(8) {
			// Leader tells them apart; whether they may be is not asked.
			l = append(l, api.Rec{Kind: below(7), Leader: i})
		}
		at := 0
		for i, r := range l {
			if r.Kind == api.RecState {
				at = i
			}
		}
		if got := Since(l); !slices.EqualFunc(got, l[at:], Same) {
			t.Errorf("of %v: %v", l, got)
		}
	}
	for _, l := range [][]api.Rec{nil, {}} {
		if got := Since(l); len(got) != 0 {
			t.Error(got)
		}
	}
	var all []api.Rec
	for kind := 1; kind <= lastKind; kind++ {
		all = append(all, of(kind))
	}
	if got := Since(all[:4]); !slices.EqualFunc(got, all[:4], Same) {
		t.Error(got)
	}
	if got := Since(append(all, all...)); !slices.EqualFunc(got, []api.Rec{of(5)}, Same) {
		t.Error(got)
	}
	if got := Since(append(slices.Clone(all), all[:3]...)); !slices.EqualFunc(got, []api.Rec{of(5), of(1), of(2), of(3)}, Same) {
		t.Error(got)
	}
}

// P24.4

func TestBack(t *testing.T) {
	for _, r := range many(7, 300) {
		b, err := Encode(r)
		if err != api.OK {
			t.Fatal(int(err))
		}
		back, err := Decode(b)
		if err != api.OK || !Same(back, r) || !Good(back) {
			t.Errorf("kind %d: %d, not as it was encoded: %.500x", r.Kind, int(err), b)
		}
	}
}

// Bytes that come close to records: what is taken is told by the same bytes.
func TestBytesBack(t *testing.T) {
	below := chance(9)
	took := 0
	for _, r := range many(5, 300) {
		b := []byte(laid(r))
		for range 1 + below(3) {
			at := below(len(b))
			switch below(3) {
			case 0:
				b[at] = byte(below(256))
			case 1:
				b = slices.Delete(b, at, at+1)
			case 2:
				b = slices.Insert(b, at, byte(below(9)))
			}
		}
		back, err := Decode(b)
		if err != api.OK {
			continue
		}
		took++
		if again, err := Encode(back); err != api.OK || !bytes.Equal(again, b) {
			t.Errorf("%.500x is taken, and told as %.500x, %d", b, again, int(err))
		}
	}
	if took == 0 {
		t.Error("nothing was tested")
	}
}

// All short bytes, each of which ends, and those that are taken are told as they were.
func TestAllShortBytes(t *testing.T) {
	try := func(b []byte) {
		r, err := Decode(b)
		if err != api.OK {
			return
		}
		if again, err := Encode(r); err != api.OK || !bytes.Equal(again, b) {
			t.Errorf("%x is told as %x, %d", b, again, int(err))
		}
	}
	for i := range 1 << 16 {
		try([]byte{byte(i), byte(i >> 8)})
		for kind := range byte(7) {
			try([]byte{1, kind, byte(i), byte(i >> 8)})
			try([]byte{1, kind, 0, byte(i), byte(i >> 8)})
		}
	}
}

// Rules 4 and 8

func TestEncodeLeavesWhatItIsGiven(t *testing.T) {
	for kind := 1; kind <= lastKind; kind++ {
		r := of(kind)
		b, _ := Encode(r)
		if !Same(r, of(kind)) {
			t.Errorf("kind %d: changed", kind)
		}
		clear(b)
		if again, err := Encode(r); err != api.OK || string(again) != laid(r) {
			t.Errorf("kind %d: what was told is kept", kind)
		}
	}
}

func TestDecodeLeavesWhatItIsGiven(t *testing.T) {
	for kind := 1; kind <= lastKind; kind++ {
		s := laid(of(kind))
		room := []byte(s + "behind")
		r, err := Decode(room[:len(s)])
		if err != api.OK || string(room) != s+"behind" {
			t.Errorf("kind %d: %d, %q", kind, int(err), room)
		}
		clear(room)
		if !Same(r, of(kind)) {
			t.Errorf("kind %d: what is told hangs on what was handed in", kind)
		}
	}
}

func TestSinceIsNew(t *testing.T) {
	room := []api.Rec{of(1), of(5), of(2), of(3)}
	for _, l := range [][]api.Rec{room[:1], room[:3]} {
		got := Since(l)
		got = append(got, of(4))
		got[0] = api.Rec{}
		for i, kind := range []int{1, 5, 2, 3} {
			if !Same(room[i], of(kind)) {
				t.Errorf("%d: %+v", i, room[i])
			}
		}
	}
	// A state behind the list's length is not seen.
	if got := Since(room[:1]); len(got) != 1 || got[0].Kind != 1 {
		t.Error(got)
	}
}
