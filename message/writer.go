package message

import (
	"raddle/api"
	"raddle/batch"
	"raddle/tally"
)

// writer gathers a message's bytes, as many as a body may have: bodies within it may come to far more together.
type writer struct {
	out  []byte
	long bool // there would be more
}

// message writes a message that may be.
func (w *writer) message(m api.Msg) {
	w.nums(m.Kind)
	switch m.Kind {
	case api.MsgPropose:
		w.nums(m.Epoch, m.Slot)
		w.batch(m.Batch)
	case api.MsgVote:
		w.vote(m.Vote)
	case api.MsgChange:
		w.change(m.Change)
	case api.MsgNew:
		w.nums(m.Epoch, m.Leader, m.View)
		writeList(w, m.News, w.envelope)
	case api.MsgMark:
		w.nums(m.Epoch)
		w.raw(m.Digest[:])
	case api.MsgStatus:
		w.nums(m.Epoch, m.Slot)
	case api.MsgEntry:
		w.batch(m.Batch)
		w.cert(m.Cert)
	case api.MsgState:
		w.text(m.State)
		writeList(w, m.Signs, w.sign)
	}
}

// writeList writes how many there are, and each one.
func writeList[T any](w *writer, l []T, each func(T)) {
	w.nums(len(l))
	for _, x := range l {
		each(x)
	}
}

// room tells whether so many bytes still fit; where they do not, nothing fits any more.
func (w *writer) room(n int) bool {
	w.long = w.long || n > api.MaxBody-len(w.out)
	return !w.long
}

func (w *writer) raw(b []byte) {
	if w.room(len(b)) {
		w.out = append(w.out, b...)
	}
}

func (w *writer) nums(l ...int) {
	for _, n := range l {
		w.raw(tally.Put(nil, n))
	}
}

func (w *writer) text(s string) {
	// Asked ahead: a text that does not fit need not be copied.
	if w.room(len(s)) {
		w.raw(tally.PutText(nil, s))
	}
}

func (w *writer) batch(b api.Batch) {
	w.raw(batch.Put(nil, b))
}

func (w *writer) vote(v api.Vote) {
	w.nums(v.Kind, v.Epoch, v.View, v.Slot)
	w.raw(v.Digest[:])
}

func (w *writer) sign(s api.Sign) {
	w.nums(s.Node)
	w.raw(s.Tag[:])
}

func (w *writer) cert(c api.Cert) {
	w.vote(c.Vote)
	writeList(w, c.Signs, w.sign)
}

func (w *writer) held(h api.Held) {
	w.batch(h.Batch)
	w.cert(h.Cert)
}

func (w *writer) change(c api.Change) {
	w.nums(c.Epoch, c.Leader, c.View)
	writeList(w, c.Held, w.held)
}

func (w *writer) envelope(e api.Envelope) {
	w.nums(e.From)
	w.text(e.Body)
	w.raw(e.Tag[:])
}
