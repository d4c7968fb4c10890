package message

import (
	"strings"

	"raddle/api"
)

// lastKind is the last kind's number; the kinds go from 1 on.
const lastKind = 8

// part is a piece of a message's bytes by the chapter's words: a number with the greatest one that it may be, or bytes as they are.
type part struct {
	name   string
	number bool
	n      int
	most   int
	raw    string
}

func number(name string, n, most int) part {
	return part{name: name, number: true, n: n, most: most}
}

func raw(name, s string) part {
	return part{name: name, raw: s}
}

// numberBytes is a number in its one form, made without the program.
func numberBytes(n int) string {
	digits := ""
	for ; n > 0; n /= 256 {
		digits = string([]byte{byte(n % 256)}) + digits
	}
	return string([]byte{byte(len(digits))}) + digits
}

func (p part) bytes() string {
	if p.number {
		return numberBytes(p.n)
	}
	return p.raw
}

func joined(l []part) string {
	var b strings.Builder
	for _, p := range l {
		b.WriteString(p.bytes())
	}
	return b.String()
}

// instead is the bytes of parts with others in place of the one at i.
func instead(l []part, i int, s string) string {
	return joined(l[:i]) + s + joined(l[i+1:])
}

func textParts(name, s string, most int) []part {
	return []part{number(name+"'s length", len(s), most), raw(name, s)}
}

func batchParts(b api.Batch) []part {
	if b.Noop {
		return []part{number("Batch", 0, 5)}
	}
	out := []part{number("Batch", len(b.Requests)+1, 5)}
	for _, r := range b.Requests {
		out = append(out, number("Client", r.Client, 8), number("Num", r.Num, 1<<40))
		out = append(out, textParts("Data", r.Data, 64)...)
		out = append(out, raw("Request's Tag", string(r.Tag[:])))
	}
	return out
}

func voteParts(v api.Vote) []part {
	return []part{
		number("Vote's Kind", v.Kind, 2), number("Vote's Epoch", v.Epoch, 1<<20), number("Vote's View", v.View, 1<<40),
		number("Vote's Slot", v.Slot, 1<<40), raw("Vote's Digest", string(v.Digest[:])),
	}
}

func signParts(l []api.Sign) []part {
	out := []part{number("Signs", len(l), 64)}
	for _, s := range l {
		out = append(out, number("Node", s.Node, 64), raw("Sign's Tag", string(s.Tag[:])))
	}
	return out
}

func certParts(c api.Cert) []part {
	return append(voteParts(c.Vote), signParts(c.Signs)...)
}

func changeParts(c api.Change) []part {
	out := []part{
		number("Change's Epoch", c.Epoch, 1<<20), number("Change's Leader", c.Leader, 64), number("Change's View", c.View, 1<<40),
		number("Held", len(c.Held), 4),
	}
	for _, h := range c.Held {
		out = append(append(out, batchParts(h.Batch)...), certParts(h.Cert)...)
	}
	return out
}

func newsParts(l []api.Envelope) []part {
	out := []part{number("News", len(l), 64)}
	for _, e := range l {
		out = append(out, number("From", e.From, 64))
		out = append(out, textParts("Body", e.Body, 1<<22)...)
		out = append(out, raw("Envelope's Tag", string(e.Tag[:])))
	}
	return out
}

// partsOf is a message's bytes by the chapter's table.
func partsOf(m api.Msg) []part {
	epoch, slot := number("Epoch", m.Epoch, 1<<20), number("Slot", m.Slot, 1<<40)
	leader, view := number("Leader", m.Leader, 64), number("View", m.View, 1<<40)
	out := []part{number("Kind", m.Kind, 8)}
	switch m.Kind {
	case 1:
		return append(append(out, epoch, slot), batchParts(m.Batch)...)
	case 2:
		return append(out, voteParts(m.Vote)...)
	case 3:
		return append(out, changeParts(m.Change)...)
	case 4:
		return append(append(out, epoch, leader, view), newsParts(m.News)...)
	case 5:
		return append(out, epoch, raw("Digest", string(m.Digest[:])))
	case 6:
		return append(out, epoch, slot)
	case 7:
		return append(append(out, batchParts(m.Batch)...), certParts(m.Cert)...)
	case 8:
		return append(append(out, textParts("State", m.State, 1<<22)...), signParts(m.Signs)...)
	}
	return out
}

// chance tells numbers that look like chance, the same ones at each run.
func chance(seed uint64) func(n int) int {
	return func(n int) int {
		seed = seed*6364136223846793005 + 1442695040888963407
		return int(seed>>33) % n
	}
}

// maker makes messages that may be.
type maker struct {
	below func(n int) int
}

// upTo is a number from 0 to most, its edges often.
func (m maker) upTo(most int) int {
	switch m.below(4) {
	case 0:
		return 0
	case 1:
		return most
	case 2:
		return m.below(min(most, 300) + 1)
	}
	return (m.below(1<<30)<<20 + m.below(1<<20)) % (most + 1)
}

func (m maker) text(most int) string {
	b := make([]byte, m.upTo(most))
	for i := range b {
		b[i] = byte(m.below(256))
	}
	return string(b)
}

func (m maker) tag() (t api.Tag) {
	for i := range t {
		t[i] = byte(m.below(256))
	}
	return t
}

func (m maker) digest() (d api.Digest) {
	for i := range d {
		d[i] = byte(m.below(256))
	}
	return d
}

func (m maker) batch() api.Batch {
	if m.below(4) == 0 {
		return api.Batch{Noop: true}
	}
	var b api.Batch
	for range m.below(5) {
		b.Requests = append(b.Requests, api.Request{Client: m.upTo(8), Num: m.upTo(1 << 40), Data: m.text(64), Tag: m.tag()})
	}
	return b
}

func (m maker) vote() api.Vote {
	return api.Vote{Kind: 1 + m.below(2), Epoch: m.upTo(1 << 20), View: m.upTo(1 << 40), Slot: m.upTo(1 << 40), Digest: m.digest()}
}

func (m maker) signs() []api.Sign {
	var l []api.Sign
	for range m.upTo(64) {
		l = append(l, api.Sign{Node: m.upTo(64), Tag: m.tag()})
	}
	return l
}

func (m maker) cert() api.Cert {
	return api.Cert{Vote: m.vote(), Signs: m.signs()}
}

func (m maker) change() api.Change {
	c := api.Change{Epoch: m.upTo(1 << 20), Leader: m.upTo(64), View: m.upTo(1 << 40)}
	for range m.below(5) {
		c.Held = append(c.Held, api.Held{Batch: m.batch(), Cert: m.cert()})
	}
	return c
}

func (m maker) news() []api.Envelope {
	var l []api.Envelope
	for range m.upTo(64) {
		l = append(l, api.Envelope{From: m.upTo(64), Body: m.text(400), Tag: m.tag()})
	}
	return l
}

// message is one of a kind.
func (m maker) message(kind int) api.Msg {
	out := api.Msg{Kind: kind}
	switch kind {
	case 1:
		out.Epoch, out.Slot, out.Batch = m.upTo(1<<20), m.upTo(1<<40), m.batch()
	case 2:
		out.Vote = m.vote()
	case 3:
		out.Change = m.change()
	case 4:
		out.Epoch, out.Leader, out.View, out.News = m.upTo(1<<20), m.upTo(64), m.upTo(1<<40), m.news()
	case 5:
		out.Epoch, out.Digest = m.upTo(1<<20), m.digest()
	case 6:
		out.Epoch, out.Slot = m.upTo(1<<20), m.upTo(1<<40)
	case 7:
		out.Batch, out.Cert = m.batch(), m.cert()
	case 8:
		out.State, out.Signs = m.text(3000), m.signs()
	}
	return out
}

// many are messages of each kind, one kind behind the other.
func many(seed uint64, each int) []api.Msg {
	m := maker{chance(seed)}
	var out []api.Msg
	for kind := 1; kind <= lastKind; kind++ {
		for range each {
			out = append(out, m.message(kind))
		}
	}
	return out
}

// full are messages of each kind in which each list has elements; made anew at each call, so that they may be written into.
func full() []api.Msg {
	asked := func(num int) api.Request {
		return api.Request{Client: 1, Num: num, Data: "data", Tag: api.Tag{1, byte(num)}}
	}
	two := func() api.Batch { return api.Batch{Requests: []api.Request{asked(3), asked(4)}} }
	signs := func() []api.Sign { return []api.Sign{{Node: 0, Tag: api.Tag{1}}, {Node: 3, Tag: api.Tag{2}}} }
	cert := func() api.Cert {
		return api.Cert{Vote: api.Vote{Kind: 1, Epoch: 2, View: 1, Slot: 9, Digest: api.Digest{1, 2}}, Signs: signs()}
	}
	held := []api.Held{{Batch: two(), Cert: cert()}, {Batch: api.Batch{Noop: true}, Cert: cert()}, {Batch: two(), Cert: cert()}}
	news := []api.Envelope{{From: 2, Body: "x", Tag: api.Tag{5}}, {From: 1, Body: "yz", Tag: api.Tag{6}}}
	return []api.Msg{
		{Kind: 1, Epoch: 2, Slot: 9, Batch: two()},
		{Kind: 2, Vote: cert().Vote},
		{Kind: 3, Change: api.Change{Epoch: 2, Leader: 3, View: 4, Held: held}},
		{Kind: 4, Epoch: 2, Leader: 1, View: 1, News: news},
		{Kind: 5, Epoch: 2, Digest: api.Digest{7}},
		{Kind: 6, Epoch: 2, Slot: 9},
		{Kind: 7, Batch: two(), Cert: cert()},
		{Kind: 8, State: "state", Signs: signs()},
	}
}

// of is the full message of a kind.
func of(kind int) api.Msg {
	return full()[kind-1]
}

// spot is a number within a message, by its place, with its least and its greatest one.
type spot struct {
	name        string
	kind        int
	least, most int
	at          func(m *api.Msg) *int
}

// spots are all numbers that the full messages have but their kinds, written out by the chapter's words.
func spots() []spot {
	const epochs, nums = 1 << 20, 1 << 40
	out := []spot{
		{"Epoch", 1, 0, epochs, func(m *api.Msg) *int { return &m.Epoch }},
		{"Slot", 1, 0, nums, func(m *api.Msg) *int { return &m.Slot }},
		{"Change.Epoch", 3, 0, epochs, func(m *api.Msg) *int { return &m.Change.Epoch }},
		{"Change.Leader", 3, 0, 64, func(m *api.Msg) *int { return &m.Change.Leader }},
		{"Change.View", 3, 0, nums, func(m *api.Msg) *int { return &m.Change.View }},
		{"Epoch", 4, 0, epochs, func(m *api.Msg) *int { return &m.Epoch }},
		{"Leader", 4, 0, 64, func(m *api.Msg) *int { return &m.Leader }},
		{"View", 4, 0, nums, func(m *api.Msg) *int { return &m.View }},
		{"News[0].From", 4, 0, 64, func(m *api.Msg) *int { return &m.News[0].From }},
		{"News[1].From", 4, 0, 64, func(m *api.Msg) *int { return &m.News[1].From }},
		{"Epoch", 5, 0, epochs, func(m *api.Msg) *int { return &m.Epoch }},
		{"Epoch", 6, 0, epochs, func(m *api.Msg) *int { return &m.Epoch }},
		{"Slot", 6, 0, nums, func(m *api.Msg) *int { return &m.Slot }},
		{"Signs[0].Node", 8, 0, 64, func(m *api.Msg) *int { return &m.Signs[0].Node }},
		{"Signs[1].Node", 8, 0, 64, func(m *api.Msg) *int { return &m.Signs[1].Node }},
	}
	for _, b := range batches() {
		for i := range 2 {
			out = append(out,
				spot{b.name + ".Client", b.kind, 0, 8, func(m *api.Msg) *int { return &b.at(m).Requests[i].Client }},
				spot{b.name + ".Num", b.kind, 0, nums, func(m *api.Msg) *int { return &b.at(m).Requests[i].Num }})
		}
	}
	for _, v := range votes() {
		out = append(out,
			spot{v.name + ".Kind", v.kind, 1, 2, func(m *api.Msg) *int { return &v.at(m).Kind }},
			spot{v.name + ".Epoch", v.kind, 0, epochs, func(m *api.Msg) *int { return &v.at(m).Epoch }},
			spot{v.name + ".View", v.kind, 0, nums, func(m *api.Msg) *int { return &v.at(m).View }},
			spot{v.name + ".Slot", v.kind, 0, nums, func(m *api.Msg) *int { return &v.at(m).Slot }})
	}
	for _, c := range certs() {
		for i := range 2 {
			out = append(out, spot{c.name + ".Node", c.kind, 0, 64, func(m *api.Msg) *int { return &c.at(m).Signs[i].Node }})
		}
	}
	return out
}

// place is something within the full message of a kind.
type place[T any] struct {
	name string
	kind int
	at   func(m *api.Msg) *T
}

// batches are the places of batches with requests.
func batches() []place[api.Batch] {
	return []place[api.Batch]{
		{"Batch", 1, func(m *api.Msg) *api.Batch { return &m.Batch }},
		{"Held[0].Batch", 3, func(m *api.Msg) *api.Batch { return &m.Change.Held[0].Batch }},
		{"Held[2].Batch", 3, func(m *api.Msg) *api.Batch { return &m.Change.Held[2].Batch }},
		{"Batch", 7, func(m *api.Msg) *api.Batch { return &m.Batch }},
	}
}

func certs() []place[api.Cert] {
	return []place[api.Cert]{
		{"Held[0].Cert", 3, func(m *api.Msg) *api.Cert { return &m.Change.Held[0].Cert }},
		{"Held[1].Cert", 3, func(m *api.Msg) *api.Cert { return &m.Change.Held[1].Cert }},
		{"Held[2].Cert", 3, func(m *api.Msg) *api.Cert { return &m.Change.Held[2].Cert }},
		{"Cert", 7, func(m *api.Msg) *api.Cert { return &m.Cert }},
	}
}

func votes() []place[api.Vote] {
	out := []place[api.Vote]{{"Vote", 2, func(m *api.Msg) *api.Vote { return &m.Vote }}}
	for _, c := range certs() {
		out = append(out, place[api.Vote]{c.name + ".Vote", c.kind, func(m *api.Msg) *api.Vote { return &c.at(m).Vote }})
	}
	return out
}

func signLists() []place[[]api.Sign] {
	out := []place[[]api.Sign]{{"Signs", 8, func(m *api.Msg) *[]api.Sign { return &m.Signs }}}
	for _, c := range certs() {
		out = append(out, place[[]api.Sign]{c.name + ".Signs", c.kind, func(m *api.Msg) *[]api.Sign { return &c.at(m).Signs }})
	}
	return out
}

// turn is a field that is made another one.
type turn struct {
	name string
	do   func(m *api.Msg)
}

// turns make one field of a message not zero each, or another one than it was. What they set may be, if the kind has it.
func turns() []turn {
	return []turn{
		{"Epoch", func(m *api.Msg) { m.Epoch++ }},
		{"Leader", func(m *api.Msg) { m.Leader++ }},
		{"View", func(m *api.Msg) { m.View++ }},
		{"Slot", func(m *api.Msg) { m.Slot++ }},
		{"Batch.Noop", func(m *api.Msg) { m.Batch = api.Batch{Noop: true} }},
		{"Batch.Requests", func(m *api.Msg) { m.Batch.Requests = append(m.Batch.Requests, api.Request{}) }},
		{"Vote.Kind", func(m *api.Msg) { m.Vote.Kind = 2 }},
		{"Vote.Epoch", func(m *api.Msg) { m.Vote.Epoch++ }},
		{"Vote.View", func(m *api.Msg) { m.Vote.View++ }},
		{"Vote.Slot", func(m *api.Msg) { m.Vote.Slot++ }},
		{"Vote.Digest", func(m *api.Msg) { m.Vote.Digest[31]++ }},
		{"Change.Epoch", func(m *api.Msg) { m.Change.Epoch++ }},
		{"Change.Leader", func(m *api.Msg) { m.Change.Leader++ }},
		{"Change.View", func(m *api.Msg) { m.Change.View++ }},
		{"Change.Held", func(m *api.Msg) {
			m.Change.Held = append(m.Change.Held, api.Held{Cert: api.Cert{Vote: api.Vote{Kind: 1}}})
		}},
		{"News", func(m *api.Msg) { m.News = append(m.News, api.Envelope{}) }},
		{"Digest", func(m *api.Msg) { m.Digest[0]++ }},
		{"Cert.Vote.Kind", func(m *api.Msg) { m.Cert.Vote.Kind = 2 }},
		{"Cert.Vote.Epoch", func(m *api.Msg) { m.Cert.Vote.Epoch++ }},
		{"Cert.Vote.View", func(m *api.Msg) { m.Cert.Vote.View++ }},
		{"Cert.Vote.Slot", func(m *api.Msg) { m.Cert.Vote.Slot++ }},
		{"Cert.Vote.Digest", func(m *api.Msg) { m.Cert.Vote.Digest[0]++ }},
		{"Cert.Signs", func(m *api.Msg) { m.Cert.Signs = append(m.Cert.Signs, api.Sign{}) }},
		{"State", func(m *api.Msg) { m.State += "s" }},
		{"Signs", func(m *api.Msg) { m.Signs = append(m.Signs, api.Sign{}) }},
	}
}

// hasFields are the beginnings of the names of a kind's fields, by the chapter's table.
func hasFields(kind int) string {
	switch kind {
	case 1:
		return "Epoch Slot Batch"
	case 2:
		return "Vote"
	case 3:
		return "Change"
	case 4:
		return "Epoch Leader View News"
	case 5:
		return "Epoch Digest"
	case 6:
		return "Epoch Slot"
	case 7:
		return "Batch Cert"
	case 8:
		return "State Signs"
	}
	return ""
}

// has tells whether a kind has the field of that name.
func has(kind int, name string) bool {
	first, _, _ := strings.Cut(name, ".")
	return strings.Contains(" "+hasFields(kind)+" ", " "+first+" ")
}
