package record

import (
	"slices"
	"strings"

	"raddle/api"
)

// number is a number's bytes by the document's words.
func number(n int) string {
	var low []byte
	for ; n > 0; n >>= 8 {
		low = append(low, byte(n))
	}
	slices.Reverse(low)
	return string(byte(len(low))) + string(low)
}

func text(s string) string {
	return number(len(s)) + s
}

func batchBytes(b api.Batch) string {
	if b.Noop {
		return number(0)
	}
	var out strings.Builder
	out.WriteString(number(len(b.Requests) + 1))
	for _, r := range b.Requests {
		out.WriteString(number(r.Client) + number(r.Num) + text(r.Data) + string(r.Tag[:]))
	}
	return out.String()
}

func voteBytes(v api.Vote) string {
	return number(v.Kind) + number(v.Epoch) + number(v.View) + number(v.Slot) + string(v.Digest[:])
}

func signsBytes(l []api.Sign) string {
	var out strings.Builder
	out.WriteString(number(len(l)))
	for _, s := range l {
		out.WriteString(number(s.Node) + string(s.Tag[:]))
	}
	return out.String()
}

// laid is a record's bytes by the document's words.
func laid(r api.Rec) string {
	out := number(r.Kind)
	switch r.Kind {
	case 1:
		return out + number(r.Slot) + number(r.View) + batchBytes(r.Batch)
	case 3:
		return out + number(r.Leader) + number(r.View)
	case 5:
		return out + text(number(8)+text(r.State)+signsBytes(r.Signs))
	}
	return out + text(number(7)+batchBytes(r.Batch)+voteBytes(r.Cert.Vote)+signsBytes(r.Cert.Signs))
}

// chance makes numbers below n without a rule that is seen, the same in each run.
func chance(seed uint64) func(n int) int {
	return func(n int) int {
		seed = seed*6364136223846793005 + 1442695040888963407
		return int(seed>>33) % n
	}
}

// maker makes records that may be, at the ends of what may be and between.
type maker struct {
	below func(n int) int
}

func (m maker) upTo(greatest int) int {
	switch m.below(4) {
	case 0:
		return 0
	case 1:
		return greatest
	case 2:
		return m.below(min(greatest, 1000) + 1)
	}
	return greatest - m.below(min(greatest, 9)+1)
}

func (m maker) tag() (t api.Tag) {
	for i := range t {
		t[i] = byte(m.below(256))
	}
	return t
}

func (m maker) digest() (d api.Digest) {
	for i := range d {
		d[i] = byte(m.below(256))
	}
	return d
}

func (m maker) text(most int) string {
	b := make([]byte, m.upTo(most))
	for i := range b {
		b[i] = byte(m.below(256))
	}
	return string(b)
}

func (m maker) batch() api.Batch {
	if m.below(4) == 0 {
		return api.Batch{Noop: true}
	}
	var b api.Batch
	for range m.below(api.MaxRequests + 1) {
		b.Requests = append(b.Requests, api.Request{Client: m.upTo(api.MaxClients), Num: m.upTo(api.MaxNum), Data: m.text(api.MaxData), Tag: m.tag()})
	}
	return b
}

func (m maker) signs() []api.Sign {
	var l []api.Sign
	for range m.upTo(api.MaxNodes) {
		l = append(l, api.Sign{Node: m.upTo(api.MaxNodes), Tag: m.tag()})
	}
	return l
}

func (m maker) cert() api.Cert {
	v := api.Vote{Kind: 1 + m.below(2), Epoch: m.upTo(api.MaxEpoch), View: m.upTo(api.MaxNum), Slot: m.upTo(api.MaxNum), Digest: m.digest()}
	return api.Cert{Vote: v, Signs: m.signs()}
}

func (m maker) rec(kind int) api.Rec {
	r := api.Rec{Kind: kind}
	switch kind {
	case 1:
		r.Slot, r.View, r.Batch = m.upTo(api.MaxNum), m.upTo(api.MaxNum), m.batch()
	case 2, 4:
		r.Batch, r.Cert = m.batch(), m.cert()
	case 3:
		r.Leader, r.View = m.upTo(api.MaxNodes), m.upTo(api.MaxNum)
	case 5:
		r.State, r.Signs = m.text(3000), m.signs()
	}
	return r
}

// many are records of all kinds that may be.
func many(seed uint64, each int) []api.Rec {
	m := maker{chance(seed)}
	var out []api.Rec
	for range each {
		for kind := 1; kind <= lastKind; kind++ {
			out = append(out, m.rec(kind))
		}
	}
	return out
}
