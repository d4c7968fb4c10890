package message

import (
	"raddle/api"
	"raddle/batch"
	"raddle/tally"
)

// reader reads a message's bytes.
type reader struct {
	*tally.Reader
	zero bool // a kind that may not be 0 was: what stands behind it counts no more
}

func newReader(s string) *reader {
	return &reader{Reader: tally.Read([]byte(s))}
}

// fault tells the first thing that is wrong with the bytes.
func (r *reader) fault() api.Errno {
	if r.zero {
		return api.ErrMessage
	}
	return r.Done()
}

// message reads a message; it is of use only without a fault.
func (r *reader) message() api.Msg {
	m := api.Msg{Kind: r.kind(api.MsgState)}
	switch m.Kind {
	case api.MsgPropose:
		m.Epoch, m.Slot = r.Num(api.MaxEpoch), r.Num(api.MaxNum)
		m.Batch = batch.Get(r.Reader)
	case api.MsgVote:
		m.Vote = r.vote()
	case api.MsgChange:
		m.Change = r.change()
	case api.MsgNew:
		m.Epoch, m.Leader, m.View = r.Num(api.MaxEpoch), r.Num(api.MaxNodes), r.Num(api.MaxNum)
		m.News = readList(r.Num, api.MaxNodes, r.envelope)
	case api.MsgMark:
		m.Epoch, m.Digest = r.Num(api.MaxEpoch), r.digest()
	case api.MsgStatus:
		m.Epoch, m.Slot = r.Num(api.MaxEpoch), r.Num(api.MaxNum)
	case api.MsgEntry:
		m.Batch, m.Cert = batch.Get(r.Reader), r.cert()
	case api.MsgState:
		m.State = r.Text(api.MaxBody)
		m.Signs = readList(r.Num, api.MaxNodes, r.sign)
	}
	return m
}

// readList reads how many there are, and each one.
func readList[T any](num func(most int) int, most int, each func() T) []T {
	many := num(most)
	out := make([]T, 0, many)
	for range many {
		out = append(out, each())
	}
	return out
}

// kind reads a kind; 0 is none.
func (r *reader) kind(most int) int {
	n := r.Num(most)
	// A reader with an error answers 0, too: then the error is what is told.
	if n == 0 && r.Err() == api.OK {
		r.zero = true
	}
	return n
}

func (r *reader) digest() api.Digest {
	var out api.Digest
	copy(out[:], r.Raw(len(out)))
	return out
}

func (r *reader) tag() api.Tag {
	var out api.Tag
	copy(out[:], r.Raw(len(out)))
	return out
}

func (r *reader) vote() api.Vote {
	var v api.Vote
	v.Kind = r.kind(api.Commit)
	v.Epoch, v.View, v.Slot = r.Num(api.MaxEpoch), r.Num(api.MaxNum), r.Num(api.MaxNum)
	v.Digest = r.digest()
	return v
}

func (r *reader) sign() api.Sign {
	return api.Sign{Node: r.Num(api.MaxNodes), Tag: r.tag()}
}

func (r *reader) cert() api.Cert {
	return api.Cert{Vote: r.vote(), Signs: readList(r.Num, api.MaxNodes, r.sign)}
}

func (r *reader) held() api.Held {
	return api.Held{Batch: batch.Get(r.Reader), Cert: r.cert()}
}

func (r *reader) change() api.Change {
	var c api.Change
	c.Epoch, c.Leader, c.View = r.Num(api.MaxEpoch), r.Num(api.MaxNodes), r.Num(api.MaxNum)
	c.Held = readList(r.Num, api.MaxSlots, r.held)
	return c
}

func (r *reader) envelope() api.Envelope {
	return api.Envelope{From: r.Num(api.MaxNodes), Body: r.Text(api.MaxBody), Tag: r.tag()}
}
