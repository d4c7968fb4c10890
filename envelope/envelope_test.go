package envelope

import (
	"math"
	"reflect"
	"slices"
	"strings"
	"testing"

	"raddle/api"
	"raddle/message"
	"raddle/request"
	"raddle/seal"
)

// status is the bytes of a status, by its chapter's example.
const status = "\x01\x06\x01\x02\x01\x09"

// keys are those of four nodes and four clients.
func keys(t *testing.T) *seal.Keys {
	t.Helper()
	k := seal.Derive("envelope", 8)
	if k.Len() != 8 {
		t.Fatal(k.Len())
	}
	return k
}

// tagOf is an identity's tag that must come about.
func tagOf(t *testing.T, k *seal.Keys, id int, body string) api.Tag {
	t.Helper()
	tag, err := k.Sign(id, body)
	if err != api.OK {
		t.Fatalf("Sign(%d): %d", id, int(err))
	}
	return tag
}

// encoded is the bytes of a message that must have some.
func encoded(t *testing.T, m api.Msg) string {
	t.Helper()
	s, err := message.Encode(m)
	if err != api.OK {
		t.Fatalf("Encode of kind %d: %d", m.Kind, int(err))
	}
	return s
}

// chance tells numbers that look like chance, the same ones at each run.
func chance(seed uint64) func(n int) int {
	return func(n int) int {
		seed = seed*6364136223846793005 + 1442695040888963407
		return int(seed>>33) % n
	}
}

// maker makes messages that may be.
type maker struct {
	below func(n int) int
}

func (m maker) text(most int) string {
	b := make([]byte, m.below(most+1))
	for i := range b {
		b[i] = byte(m.below(256))
	}
	return string(b)
}

func (m maker) tag() (t api.Tag) {
	for i := range t {
		t[i] = byte(m.below(256))
	}
	return t
}

func (m maker) batch() api.Batch {
	if m.below(4) == 0 {
		return api.Batch{Noop: true}
	}
	var b api.Batch
	for range m.below(5) {
		b.Requests = append(b.Requests, api.Request{Client: m.below(9), Num: m.below(1 << 30), Data: m.text(64), Tag: m.tag()})
	}
	return b
}

func (m maker) signs() []api.Sign {
	var l []api.Sign
	for range m.below(10) {
		l = append(l, api.Sign{Node: m.below(65), Tag: m.tag()})
	}
	return l
}

func (m maker) cert() api.Cert {
	v := api.Vote{Kind: 1 + m.below(2), Epoch: m.below(1 << 20), View: m.below(9), Slot: m.below(1 << 30), Digest: api.Digest{byte(m.below(256))}}
	return api.Cert{Vote: v, Signs: m.signs()}
}

func (m maker) held() []api.Held {
	var l []api.Held
	for range m.below(5) {
		l = append(l, api.Held{Batch: m.batch(), Cert: m.cert()})
	}
	return l
}

// news are envelopes of messages that may have News in them so deep, and of what is no message.
func (m maker) news(t *testing.T, deep int) []api.Envelope {
	t.Helper()
	var l []api.Envelope
	for range m.below(5) {
		body := m.text(100)
		if m.below(4) > 0 {
			body = encoded(t, m.message(t, 1+m.below(8), deep-1))
		}
		l = append(l, api.Envelope{From: m.below(65), Body: body, Tag: m.tag()})
	}
	return l
}

// message is one of a kind, with News in it so deep.
func (m maker) message(t *testing.T, kind, deep int) api.Msg {
	t.Helper()
	out := api.Msg{Kind: kind}
	switch kind {
	case api.MsgPropose:
		out.Epoch, out.Slot, out.Batch = m.below(1<<20), m.below(1<<30), m.batch()
	case api.MsgVote:
		out.Vote = m.cert().Vote
	case api.MsgChange:
		out.Change = api.Change{Epoch: m.below(1 << 20), Leader: m.below(64), View: m.below(9), Held: m.held()}
	case api.MsgNew:
		out.Epoch, out.Leader, out.View = m.below(1<<20), m.below(64), m.below(9)
		if deep > 0 {
			out.News = m.news(t, deep)
		}
	case api.MsgMark:
		out.Epoch, out.Digest = m.below(1<<20), api.Digest{byte(m.below(256))}
	case api.MsgStatus:
		out.Epoch, out.Slot = m.below(1<<20), m.below(1<<30)
	case api.MsgEntry:
		out.Batch, out.Cert = m.batch(), m.cert()
	case api.MsgState:
		out.State, out.Signs = m.text(300), m.signs()
	}
	return out
}

// many are messages of each kind.
func many(t *testing.T, seed uint64, each int) []api.Msg {
	t.Helper()
	m := maker{chance(seed)}
	var out []api.Msg
	for range each {
		for kind := api.MsgPropose; kind <= api.MsgState; kind++ {
			out = append(out, m.message(t, kind, 3))
		}
	}
	return out
}

// The chapter's example.

func TestExample(t *testing.T) {
	if l := Claims(4, status); len(l) != 0 {
		t.Error(l)
	}
	k := keys(t)
	r, err := request.Make(k, 4, 1, 3, "data")
	if err != api.OK {
		t.Fatal(int(err))
	}
	body := encoded(t, api.Msg{Kind: api.MsgPropose, Epoch: 1, Slot: 1, Batch: api.Batch{Requests: []api.Request{r}}})
	want := []Claim{{ID: 5, Body: "R\x01\x01\x01\x03\x01\x04data", Tag: r.Tag}}
	if l := Claims(4, body); !slices.Equal(l, want) || !k.Check(5, l[0].Body, l[0].Tag) {
		t.Error(l)
	}
}

// P14.1, Seal

func mustNotSeal(t *testing.T, name string, k *seal.Keys, from int, body string, want api.Errno) {
	t.Helper()
	if e, err := Seal(k, from, body); err != want || e != (api.Envelope{}) {
		t.Errorf("%s: Seal: %d, want %d", name, int(err), int(want))
	}
}

func TestSeal(t *testing.T) {
	k := keys(t)
	for _, from := range []int{0, 1, 3, 4, 7} {
		for _, body := range []string{"", "x", status, "no message", strings.Repeat("b", 70000)} {
			want := api.Envelope{From: from, Body: body, Tag: tagOf(t, k, from, body)}
			if e, err := Seal(k, from, body); err != api.OK || e != want {
				t.Errorf("Seal(%d, %d bytes): %d", from, len(body), int(err))
			}
		}
	}
	one := seal.Derive("one", 1)
	if e, err := Seal(one, 0, status); err != api.OK || e != (api.Envelope{Body: status, Tag: tagOf(t, one, 0, status)}) {
		t.Error(int(err))
	}
	mustNotSeal(t, "one key", one, 1, status, api.ErrArg)
}

func TestSealErrors(t *testing.T) {
	k := keys(t)
	long := strings.Repeat("l", api.MaxBody+1)
	for _, from := range []int{math.MinInt, -1, 0, 7, 8, 9, math.MaxInt} {
		for _, body := range []string{"", status, long} {
			mustNotSeal(t, "nil", nil, from, body, api.ErrNil)
			mustNotSeal(t, "plain", &seal.Keys{}, from, body, api.ErrNil)
		}
		mustNotSeal(t, "long", k, from, long, api.ErrLong)
	}
	for _, from := range []int{math.MinInt, -1, 8, 9, api.MaxNodes, math.MaxInt} {
		mustNotSeal(t, "no identity", k, from, status, api.ErrArg)
		mustNotSeal(t, "no identity, the longest", k, from, long[1:], api.ErrArg)
	}
	if e, err := Seal(k, 7, long[1:]); err != api.OK || e.From != 7 || e.Body != long[1:] || e.Tag != tagOf(t, k, 7, long[1:]) {
		t.Errorf("MaxBody bytes: %d", int(err))
	}
}

// P14.1, Open

func mustNotOpen(t *testing.T, name string, k *seal.Keys, nodes int, e api.Envelope, want api.Errno) {
	t.Helper()
	m, err := Open(k, nodes, e)
	if err != want {
		t.Errorf("%s: Open: %d, want %d", name, int(err), int(want))
	}
	if !reflect.DeepEqual(m, api.Msg{}) {
		t.Errorf("%s: beside the error stands %+v", name, m)
	}
}

// sealed is an envelope that must come about, whatever its body is.
func sealed(t *testing.T, k *seal.Keys, from int, body string) api.Envelope {
	t.Helper()
	return api.Envelope{From: from, Body: body, Tag: tagOf(t, k, from, body)}
}

func TestOpen(t *testing.T) {
	k := keys(t)
	for nodes := 1; nodes <= 8; nodes++ {
		for from := range 8 {
			e := sealed(t, k, from, status)
			if from >= nodes {
				mustNotOpen(t, "not from 0 to nodes - 1", k, nodes, e, api.ErrSender)
				continue
			}
			m, err := Open(k, nodes, e)
			if err != api.OK || !message.Same(m, api.Msg{Kind: api.MsgStatus, Epoch: 2, Slot: 9}) {
				t.Errorf("%d of %d: %+v, %d", from, nodes, m, int(err))
			}
		}
	}
	// There may be said to be more nodes than there are keys.
	for _, nodes := range []int{9, api.MaxNodes, api.MaxNodes + 1, math.MaxInt} {
		if _, err := Open(k, nodes, sealed(t, k, 7, status)); err != api.OK {
			t.Errorf("nodes %d: %d", nodes, int(err))
		}
		mustNotOpen(t, "no such key", k, nodes, api.Envelope{From: 8, Body: status, Tag: tagOf(t, k, 7, status)}, api.ErrSender)
		mustNotOpen(t, "no such key, no tag", k, nodes, api.Envelope{From: 8, Body: status}, api.ErrSender)
	}
	mustNotOpen(t, "the greatest From", k, math.MaxInt, api.Envelope{From: math.MaxInt - 1, Body: status}, api.ErrSender)
}

func TestOpenErrors(t *testing.T) {
	k := keys(t)
	good := sealed(t, k, 3, status)
	long := strings.Repeat("l", api.MaxBody+1)
	wrong := sealed(t, k, 3, long)
	for _, nodes := range []int{math.MinInt, -1, 0, 4, math.MaxInt} {
		for _, e := range []api.Envelope{good, wrong, {From: -1}, {}} {
			mustNotOpen(t, "nil", nil, nodes, e, api.ErrNil)
			mustNotOpen(t, "plain", &seal.Keys{}, nodes, e, api.ErrNil)
		}
	}
	for _, nodes := range []int{math.MinInt, math.MinInt + 1, -1, 0, 1, 3} {
		mustNotOpen(t, "too few nodes", k, nodes, good, api.ErrSender)
		mustNotOpen(t, "too few nodes", k, nodes, sealed(t, k, 3, "no message"), api.ErrSender)
	}
	for _, from := range []int{math.MinInt, -1, 4, 5, math.MaxInt} {
		mustNotOpen(t, "no sender", k, 4, api.Envelope{From: from, Body: status, Tag: good.Tag}, api.ErrSender)
		mustNotOpen(t, "no sender", k, 4, api.Envelope{From: from, Body: long}, api.ErrSender)
	}
	mustNotOpen(t, "long, with its tag", k, 4, wrong, api.ErrSender)
	for _, from := range []int{0, 1, 2} {
		mustNotOpen(t, "another sender", k, 4, api.Envelope{From: from, Body: status, Tag: good.Tag}, api.ErrSender)
	}
	for i := range good.Tag {
		for bit := range 8 {
			e := good
			e.Tag[i] ^= 1 << bit
			mustNotOpen(t, "another tag", k, 4, e, api.ErrSender)
		}
	}
	for i := range len(status) {
		b := []byte(status)
		b[i]++
		mustNotOpen(t, "another body", k, 4, api.Envelope{From: 3, Body: string(b), Tag: good.Tag}, api.ErrSender)
	}
	mustNotOpen(t, "a shorter body", k, 4, api.Envelope{From: 3, Body: status[:5], Tag: good.Tag}, api.ErrSender)
	mustNotOpen(t, "a longer body", k, 4, api.Envelope{From: 3, Body: status + "\x00", Tag: good.Tag}, api.ErrSender)
	mustNotOpen(t, "no message, another tag", k, 4, api.Envelope{From: 3, Body: "\x00", Tag: good.Tag}, api.ErrSender)
	mustNotOpen(t, "other keys", seal.Derive("others", 8), 4, good, api.ErrSender)
}

func TestOpenOfNoMessage(t *testing.T) {
	k := keys(t)
	for body, want := range map[string]api.Errno{
		"":                                  api.ErrCut,
		"\x00":                              api.ErrMessage,
		"\x01\x02\x00":                      api.ErrMessage,
		"\x01\x09":                          api.ErrLong,
		"\x01\x06\x01":                      api.ErrCut,
		"\x01\x06\x01\x00":                  api.ErrForm,
		"\x01\x06\x01\x02\x01\x09\x00":      api.ErrMore,
		"\xff":                              api.ErrForm,
		strings.Repeat("\x00", api.MaxBody): api.ErrMessage,
	} {
		mustNotOpen(t, "no message", k, 4, sealed(t, k, 2, body), want)
	}
	state := encoded(t, api.Msg{Kind: api.MsgState, State: strings.Repeat("s", api.MaxBody-7)})
	if len(state) != api.MaxBody {
		t.Fatal(len(state))
	}
	if m, err := Open(k, 4, sealed(t, k, 0, state)); err != api.OK || len(m.State) != api.MaxBody-7 {
		t.Errorf("MaxBody bytes: %d", int(err))
	}
}

// P14.2, Put

func TestPut(t *testing.T) {
	tag := api.Tag([]byte("0123456789abcdef"))
	for _, x := range []struct {
		e    api.Envelope
		want string
	}{
		{api.Envelope{}, "\x00\x00" + strings.Repeat("\x00", 16)},
		{api.Envelope{From: 3, Body: "xyz", Tag: tag}, "\x01\x03\x01\x03xyz0123456789abcdef"},
		{api.Envelope{From: 64, Body: status, Tag: tag}, "\x01\x40\x01\x06" + status + "0123456789abcdef"},
		{api.Envelope{From: 65, Tag: tag}, "\x01\x41\x000123456789abcdef"},
		{api.Envelope{From: 1 << 40, Body: strings.Repeat("b", 256), Tag: tag}, "\x06\x01\x00\x00\x00\x00\x00\x02\x01\x00" + strings.Repeat("b", 256) + "0123456789abcdef"},
		{api.Envelope{From: math.MaxInt, Tag: tag}, "\x08\x7f\xff\xff\xff\xff\xff\xff\xff\x000123456789abcdef"},
		// A number below 0 has no bytes.
		{api.Envelope{From: -1, Body: "x", Tag: tag}, "\x01\x01x0123456789abcdef"},
		{api.Envelope{From: math.MinInt, Tag: tag}, "\x000123456789abcdef"},
	} {
		for _, ahead := range []string{"", "a", "ahead", x.want} {
			if got := string(Put([]byte(ahead), x.e)); got != ahead+x.want {
				t.Errorf("Put(%q, %d): %x, want %x behind", ahead, x.e.From, got, x.want)
			}
		}
		if got := string(Put(nil, x.e)); got != x.want {
			t.Errorf("Put(nil, %d): %x, want %x", x.e.From, got, x.want)
		}
	}
	long := strings.Repeat("l", api.MaxBody+1)
	if got := string(Put(nil, api.Envelope{From: 1, Body: long, Tag: tag})); got != "\x01\x01\x03\x40\x00\x01"+long+"0123456789abcdef" {
		t.Errorf("a body that is too long: %d bytes", len(got))
	}
}

// The spare room of what is handed in may be another's, and what is handed out is the caller's own.
func TestPutMakesNewMemory(t *testing.T) {
	for _, e := range []api.Envelope{{}, {From: 3, Body: status, Tag: api.Tag{1}}, {From: -1}} {
		whole := []byte(strings.Repeat("0123456789", 10))
		b := whole[:4]
		first := Put(b, e)
		second := Put(b, e)
		kept := string(second)
		for i := range first {
			first[i] = '#'
		}
		_ = append(first, "###"...)
		if string(whole) != strings.Repeat("0123456789", 10) {
			t.Errorf("what was handed in is now %q", whole)
		}
		if string(second) != kept || !strings.HasPrefix(kept, "0123") {
			t.Errorf("two answers share memory: %q", second)
		}
	}
}

// P14.2, Get

func mustNotGet(t *testing.T, name, s string, want api.Errno) {
	t.Helper()
	if e, err := Get(s); err != want || e != (api.Envelope{}) {
		t.Errorf("%s: Get: %d, want %d", name, int(err), int(want))
	}
}

func TestGet(t *testing.T) {
	tag := "0123456789abcdef"
	e, err := Get("\x01\x03\x01\x03xyz" + tag)
	if err != api.OK || e != (api.Envelope{From: 3, Body: "xyz", Tag: api.Tag([]byte(tag))}) {
		t.Error(e, int(err))
	}
	e, err = Get("\x01\x40\x00" + tag)
	if err != api.OK || e != (api.Envelope{From: 64, Tag: api.Tag([]byte(tag))}) {
		t.Error(e, int(err))
	}
	for _, x := range []struct {
		name, s string
		want    api.Errno
	}{
		{"nothing", "", api.ErrCut},
		{"From above MaxNodes", "\x01\x41\x00" + tag, api.ErrLong},
		{"From above MaxNodes, nothing behind", "\x01\x41", api.ErrLong},
		{"From in another form", "\x02\x00\x03\x00" + tag, api.ErrForm},
		{"From 0 in another form", "\x01\x00\x00" + tag, api.ErrForm},
		{"From of nine bytes", "\x09\x00" + tag, api.ErrForm},
		{"Body above MaxBody", "\x00\x03\x40\x00\x01" + tag, api.ErrLong},
		{"Body cut", "\x00\x03\x40\x00\x00" + tag, api.ErrCut},
		{"Body's length in another form", "\x00\x01\x00" + tag, api.ErrForm},
		{"Tag cut", "\x00\x00" + tag[:15], api.ErrCut},
		{"no Tag", "\x00\x00", api.ErrCut},
		{"more", "\x00\x00" + tag + "\x00", api.ErrMore},
		{"far more", "\x00\x00" + tag + strings.Repeat("x", api.MaxBody), api.ErrMore},
	} {
		mustNotGet(t, x.name, x.s, x.want)
	}
}

func TestGetOfOneShorterAndOneLonger(t *testing.T) {
	for _, e := range []api.Envelope{{}, {From: 64, Body: status, Tag: api.Tag{1, 15: 2}}, {From: 1, Body: strings.Repeat("b", 300)}} {
		s := string(Put(nil, e))
		for n := range len(s) {
			mustNotGet(t, "shorter", s[:n], api.ErrCut)
		}
		for _, more := range []string{"\x00", "\xff", s} {
			mustNotGet(t, "longer", s+more, api.ErrMore)
		}
	}
}

// P14.3

// model is what a message says that somebody signed, by the chapter's words.
func model(t *testing.T, nodes int, m api.Msg, news bool) []Claim {
	t.Helper()
	var out []Claim
	requests := func(b api.Batch) {
		for _, r := range b.Requests {
			out = append(out, Claim{nodes + r.Client, request.Body(r), r.Tag})
		}
	}
	cert := func(c api.Cert) {
		for _, s := range c.Signs {
			out = append(out, Claim{s.Node, encoded(t, api.Msg{Kind: api.MsgVote, Vote: c.Vote}), s.Tag})
		}
	}
	switch m.Kind {
	case api.MsgPropose:
		requests(m.Batch)
	case api.MsgChange:
		for _, h := range m.Change.Held {
			requests(h.Batch)
			cert(h.Cert)
		}
	case api.MsgEntry:
		requests(m.Batch)
		cert(m.Cert)
	case api.MsgState:
		for _, s := range m.Signs {
			out = append(out, Claim{s.Node, "", s.Tag})
		}
	case api.MsgNew:
		if !news {
			break
		}
		for _, e := range m.News {
			out = append(out, Claim{e.From, e.Body, e.Tag})
			if inner, err := message.Decode(e.Body); err == api.OK {
				out = append(out, model(t, nodes, inner, false)...)
			}
		}
	}
	return out
}

func TestClaimsOfEachKind(t *testing.T) {
	asked := func(client int) api.Request {
		return api.Request{Client: client, Num: client + 1, Data: "d", Tag: api.Tag{byte(client), 1}}
	}
	body := func(client int) string {
		c := ""
		if client == 0 {
			c = "\x00"
		} else {
			c = "\x01" + string([]byte{byte(client)})
		}
		return "R" + c + "\x01" + string([]byte{byte(client + 1)}) + "\x01\x01d"
	}
	b := api.Batch{Requests: []api.Request{asked(8), asked(0), asked(8)}}
	c := api.Cert{Vote: api.Vote{Kind: 1, Epoch: 2, View: 0, Slot: 9}, Signs: []api.Sign{{Node: 64, Tag: api.Tag{2}}, {Node: 0, Tag: api.Tag{3}}}}
	d := api.Cert{Vote: api.Vote{Kind: 2, Epoch: 2, View: 1, Slot: 9}, Signs: []api.Sign{{Node: 64, Tag: api.Tag{4}}}}
	voteC := "\x01\x02\x01\x01\x01\x02\x00\x01\x09" + strings.Repeat("\x00", 32)
	voteD := "\x01\x02\x01\x02\x01\x02\x01\x01\x01\x09" + strings.Repeat("\x00", 32)
	ofB := []Claim{{15, body(8), api.Tag{8, 1}}, {7, body(0), api.Tag{0, 1}}, {15, body(8), api.Tag{8, 1}}}
	ofC := []Claim{{64, voteC, api.Tag{2}}, {0, voteC, api.Tag{3}}}
	ofD := []Claim{{64, voteD, api.Tag{4}}}
	none := api.Batch{Noop: true}
	for _, x := range []struct {
		m    api.Msg
		want []Claim
	}{
		{api.Msg{Kind: api.MsgPropose, Batch: b}, ofB},
		{api.Msg{Kind: api.MsgPropose, Batch: none}, nil},
		{api.Msg{Kind: api.MsgPropose}, nil},
		{api.Msg{Kind: api.MsgVote, Vote: c.Vote}, nil},
		{api.Msg{Kind: api.MsgChange}, nil},
		{api.Msg{Kind: api.MsgChange, Change: api.Change{Held: []api.Held{{Batch: b, Cert: c}, {Batch: none, Cert: d}, {Batch: b, Cert: d}}}}, slices.Concat(ofB, ofC, ofD, ofB, ofD)},
		{api.Msg{Kind: api.MsgNew}, nil},
		{api.Msg{Kind: api.MsgMark, Epoch: 3, Digest: api.Digest{1}}, nil},
		{api.Msg{Kind: api.MsgStatus, Epoch: 2, Slot: 9}, nil},
		{api.Msg{Kind: api.MsgEntry, Batch: b, Cert: c}, slices.Concat(ofB, ofC)},
		{api.Msg{Kind: api.MsgEntry, Batch: none, Cert: d}, ofD},
		{api.Msg{Kind: api.MsgEntry, Batch: b, Cert: api.Cert{Vote: d.Vote}}, ofB},
		{api.Msg{Kind: api.MsgState, State: "s", Signs: c.Signs}, []Claim{{64, "", api.Tag{2}}, {0, "", api.Tag{3}}}},
		{api.Msg{Kind: api.MsgState, State: status}, nil},
	} {
		if got := Claims(7, encoded(t, x.m)); !slices.Equal(got, x.want) {
			t.Errorf("kind %d: %+v, want %+v", x.m.Kind, got, x.want)
		}
	}
}

func TestClaimsOfNodes(t *testing.T) {
	p := encoded(t, api.Msg{Kind: api.MsgPropose, Batch: api.Batch{Requests: []api.Request{{Client: 8}, {Client: 0}}}})
	s := encoded(t, api.Msg{Kind: api.MsgState, Signs: []api.Sign{{Node: 64}}})
	for _, nodes := range []int{0, 1, 4, 63, 64} {
		if l := Claims(nodes, p); len(l) != 2 || l[0].ID != nodes+8 || l[1].ID != nodes {
			t.Errorf("nodes %d: %v", nodes, l)
		}
		// A sign's node is told as it stands there, were there fewer nodes.
		if l := Claims(nodes, s); len(l) != 1 || l[0].ID != 64 {
			t.Errorf("nodes %d: %v", nodes, l)
		}
	}
	for _, nodes := range []int{math.MinInt, -1, 65, math.MaxInt} {
		if l := append(Claims(nodes, p), Claims(nodes, s)...); len(l) != 0 {
			t.Errorf("nodes %d: %v", nodes, l)
		}
	}
}

func TestClaimsOfNoMessage(t *testing.T) {
	p := encoded(t, api.Msg{Kind: api.MsgPropose, Batch: api.Batch{Requests: make([]api.Request, 4)}})
	for n := range len(p) {
		if l := Claims(4, p[:n]); len(l) != 0 {
			t.Error(l)
		}
	}
	for _, s := range []string{p + "\x00", "x", "\x00", "\x01\x09", strings.Repeat("\x00", api.MaxBody+1), p + strings.Repeat("\x00", api.MaxBody)} {
		if l := Claims(4, s); len(l) != 0 {
			t.Error(l)
		}
	}
}

func TestClaimsOfNews(t *testing.T) {
	p := encoded(t, api.Msg{Kind: api.MsgPropose, Batch: api.Batch{Requests: []api.Request{{Client: 2, Num: 1}}}})
	state := encoded(t, api.Msg{Kind: api.MsgState, State: strings.Repeat("s", 100000), Signs: []api.Sign{{Node: 9, Tag: api.Tag{9}}}})
	inP := Claim{6, "R\x01\x02\x01\x01\x00", api.Tag{}}
	inner := encoded(t, api.Msg{Kind: api.MsgNew, News: []api.Envelope{{From: 1, Body: p}, {From: 2, Body: state}}})
	deeper := encoded(t, api.Msg{Kind: api.MsgNew, News: []api.Envelope{{From: 1, Body: inner}}})
	for _, x := range []struct {
		name string
		news []api.Envelope
		want []Claim
	}{
		{"a message", []api.Envelope{{From: 3, Body: p, Tag: api.Tag{7}}}, []Claim{{3, p, api.Tag{7}}, inP}},
		{"no message", []api.Envelope{{From: 64, Body: "no", Tag: api.Tag{7}}, {}}, []Claim{{64, "no", api.Tag{7}}, {}}},
		{"nearly one", []api.Envelope{{Body: p + "\x00"}, {Body: p[1:]}}, []Claim{{0, p + "\x00", api.Tag{}}, {0, p[1:], api.Tag{}}}},
		{"News in it", []api.Envelope{{From: 3, Body: inner}, {From: 2, Body: p}}, []Claim{{3, inner, api.Tag{}}, {2, p, api.Tag{}}, inP}},
		{"News in News in it", []api.Envelope{{From: 3, Body: deeper}}, []Claim{{3, deeper, api.Tag{}}}},
		{"a long one between", []api.Envelope{{From: 1, Body: p}, {From: 2, Body: state}, {From: 3, Body: p}},
			[]Claim{{1, p, api.Tag{}}, inP, {2, state, api.Tag{}}, {9, "", api.Tag{9}}, {3, p, api.Tag{}}, inP}},
	} {
		body := encoded(t, api.Msg{Kind: api.MsgNew, Epoch: 1, Leader: 2, View: 3, News: x.news})
		if got := Claims(4, body); !slices.Equal(got, x.want) {
			t.Errorf("%s: %d claims, want %d", x.name, len(got), len(x.want))
		}
	}
	all := make([]api.Envelope, 64)
	var want []Claim
	for i := range all {
		all[i] = api.Envelope{From: i, Body: p, Tag: api.Tag{byte(i)}}
		want = append(want, Claim{i, p, api.Tag{byte(i)}}, inP)
	}
	if got := Claims(4, encoded(t, api.Msg{Kind: api.MsgNew, News: all})); !slices.Equal(got, want) {
		t.Errorf("64 of them: %d claims", len(got))
	}
}

// News that are nested as deep as there is room for are done with soon.
func TestClaimsOfDeepNews(t *testing.T) {
	body := encoded(t, api.Msg{Kind: api.MsgPropose, Batch: api.Batch{Requests: make([]api.Request, 1)}})
	for range 2000 {
		next := encoded(t, api.Msg{Kind: api.MsgNew, News: []api.Envelope{{From: 1, Body: body}}})
		if got := Claims(4, next); len(got) > 2 || got[0] != (Claim{1, body, api.Tag{}}) {
			t.Fatal(len(got))
		}
		body = next
	}
}

func TestClaimsByTheModel(t *testing.T) {
	total := 0
	for i, m := range many(t, 7, 60) {
		nodes := i % 65
		want := model(t, nodes, m, true)
		got := Claims(nodes, encoded(t, m))
		if !slices.Equal(got, want) {
			t.Errorf("kind %d: %d claims, want %d", m.Kind, len(got), len(want))
		}
		total += len(got)
	}
	if total < 1000 {
		t.Errorf("only %d claims", total)
	}
}

// All tags of what honest ones made are found, and are those of the identities that are told.
func TestClaimsOfWhatIsSigned(t *testing.T) {
	k := keys(t)
	var b api.Batch
	for client := range 4 {
		r, err := request.Make(k, 4, client, 1+client, "data")
		if err != api.OK {
			t.Fatal(int(err))
		}
		b.Requests = append(b.Requests, r)
	}
	c := api.Cert{Vote: api.Vote{Kind: api.Commit, Epoch: 1, Slot: 1}}
	for node := range 3 {
		c.Signs = append(c.Signs, api.Sign{Node: node, Tag: tagOf(t, k, node, message.Vote(c.Vote))})
	}
	change := encoded(t, api.Msg{Kind: api.MsgChange, Change: api.Change{Epoch: 1, Held: []api.Held{{Batch: b, Cert: c}}}})
	entry := encoded(t, api.Msg{Kind: api.MsgEntry, Batch: b, Cert: c})
	news := api.Msg{Kind: api.MsgNew, Epoch: 1, News: []api.Envelope{sealed(t, k, 1, change), sealed(t, k, 2, entry)}}
	l := Claims(4, encoded(t, news))
	if len(l) != 16 {
		t.Fatal(len(l))
	}
	for _, x := range l {
		if !k.Check(x.ID, x.Body, x.Tag) {
			t.Errorf("not signed by %d: %x", x.ID, x.Body)
		}
	}
}

func TestClaimsTellsNewMemory(t *testing.T) {
	body := encoded(t, api.Msg{Kind: api.MsgState, Signs: []api.Sign{{Node: 1}, {Node: 2}}})
	first, second := Claims(4, body), Claims(4, body)
	first[0].ID = 9
	_ = append(first[:1], Claim{ID: 8})
	if !slices.Equal(second, []Claim{{ID: 1}, {ID: 2}}) || !slices.Equal(Claims(4, body), second) {
		t.Error(second)
	}
}

// P14.4

func TestSealedIsOpened(t *testing.T) {
	k := keys(t)
	below := chance(31)
	for _, m := range many(t, 3, 12) {
		body := encoded(t, m)
		from := below(4)
		e, err := Seal(k, from, body)
		if err != api.OK {
			t.Fatal(int(err))
		}
		if x, err := Open(k, 4, e); err != api.OK || !message.Same(x, m) {
			t.Errorf("kind %d: %d", m.Kind, int(err))
		}
		for other := range 4 {
			if other != from {
				mustNotOpen(t, "another sender", k, 4, api.Envelope{From: other, Body: e.Body, Tag: e.Tag}, api.ErrSender)
			}
		}
		for range 10 {
			b := []byte(body)
			b[below(len(b))] ^= byte(1 + below(255))
			mustNotOpen(t, "another byte", k, 4, api.Envelope{From: from, Body: string(b), Tag: e.Tag}, api.ErrSender)
		}
	}
}

// P14.5

func TestBack(t *testing.T) {
	below := chance(37)
	mk := maker{below}
	l := []api.Envelope{{}, {From: 64}, {From: 64, Body: strings.Repeat("b", api.MaxBody), Tag: api.Tag{1}}}
	for range 500 {
		l = append(l, api.Envelope{From: below(65), Body: mk.text(1 + below(600)), Tag: mk.tag()})
	}
	for _, e := range l {
		s := string(Put(nil, e))
		if x, err := Get(s); err != api.OK || x != e {
			t.Errorf("%d bytes of %d: %d", len(e.Body), e.From, int(err))
		}
		if behind := Put([]byte("ahead"), e); string(behind) != "ahead"+s {
			t.Errorf("%d bytes of %d: other bytes behind some", len(e.Body), e.From)
		}
	}
	mustNotGet(t, "From one above", string(Put(nil, api.Envelope{From: 65})), api.ErrLong)
	mustNotGet(t, "one byte above", string(Put(nil, api.Envelope{Body: strings.Repeat("b", api.MaxBody+1)})), api.ErrLong)
}
