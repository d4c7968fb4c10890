package segment

import (
	"raddle/api"
	"raddle/batch"
	"raddle/message"
	"raddle/slot"
)

// accept lets a slot accept a batch in a view, and votes for it. One that is accepted already is no error, and no news.
func (s *Segment) accept(out *api.Said, number, view int, b api.Batch) api.Errno {
	p := s.parts[number]
	had := p.accepts(view)
	next, err := slot.Accept(p.slot, view, b)
	if err != api.OK || had {
		return err
	}
	p.slot = next
	keep(out, api.Rec{Kind: api.RecAccept, Slot: number, View: view, Batch: b})
	say(out, s.cast(s.vote(api.Prepare, number)))
	s.goOn(out, number)
	return api.OK
}

// acceptAll lets slot by slot accept its batch in the segment's view. A slot that has accepted another one there keeps that: it has voted for it.
func (s *Segment) acceptAll(out *api.Said, l []api.Batch) {
	for i, number := range s.order {
		s.accept(out, number, s.view, l[i])
	}
}

// goOn does with a slot what its votes allow.
func (s *Segment) goOn(out *api.Said, number int) {
	s.hold(out, number)
	s.decide(out, number)
}

// hold holds what the quorum voted Prepare for in the segment's view, and votes Commit.
func (s *Segment) hold(out *api.Said, number int) {
	p := s.parts[number]
	if !s.isReady() || !p.accepts(s.view) || p.holds(s.view) {
		return
	}
	cert, enough := p.book.Cert(s.vote(api.Prepare, number), s.most())
	if !enough {
		return
	}
	next, err := slot.Hold(p.slot, cert)
	if err != api.OK {
		return
	}
	p.slot = next
	keep(out, api.Rec{Kind: api.RecHeld, Batch: next.Held.Batch, Cert: cert})
	say(out, s.cast(s.vote(api.Commit, number)))
}

// decide decides what the quorum voted Commit for, in whatever view that was, if the slot has the batch.
func (s *Segment) decide(out *api.Said, number int) {
	p := s.parts[number]
	if p.slot.Decided {
		return
	}
	cert, enough := p.book.Best(api.Commit, s.most())
	if !enough {
		return
	}
	if b, known := slot.Known(p.slot, cert.Vote.Digest); known {
		s.enter(out, number, b, cert)
	}
}

// enter decides a slot. What is decided already is no error, and no news.
func (s *Segment) enter(out *api.Said, number int, b api.Batch, c api.Cert) api.Errno {
	p := s.parts[number]
	had := p.slot.Decided
	next, err := slot.Decide(p.slot, b, c)
	if err != api.OK || had {
		return err
	}
	p.slot = next
	keep(out, api.Rec{Kind: api.RecEntry, Batch: b, Cert: c})
	return api.OK
}

// vote tells the vote of a kind for what a slot has accepted, in the view in which it did.
func (s *Segment) vote(kind, number int) api.Vote {
	x := s.parts[number].slot
	return api.Vote{Kind: kind, Epoch: s.epoch.Number, View: x.View, Slot: number, Digest: batch.Digest(x.Batch)}
}

// cast puts me's vote into its slot's book, and tells its bytes.
func (s *Segment) cast(v api.Vote) string {
	body := message.Vote(v)
	tag, _ := s.keys.Sign(s.me, body)
	// Nothing is refused: me's views do not fall, and in a view it votes for what its slot has accepted alone.
	s.parts[v.Slot].book.Add(s.me, v, tag)
	return body
}

// keep lays a record behind what is to be kept.
func keep(out *api.Said, r api.Rec) {
	out.Recs = append(out.Recs, r)
}

// say lays a body behind what is to be said. What has no bytes may not be told, and is not.
func say(out *api.Said, body string) {
	if body != "" {
		out.Bodies = append(out.Bodies, body)
	}
}

// bytesOf tells a message's bytes, none where it may not be: what is told beside an error is empty.
func bytesOf(m api.Msg) string {
	body, _ := message.Encode(m)
	return body
}

// proposal tells the bytes of what the leader says of a slot.
func (s *Segment) proposal(number int, b api.Batch) string {
	return bytesOf(api.Msg{Kind: api.MsgPropose, Epoch: s.epoch.Number, Slot: number, Batch: b})
}
