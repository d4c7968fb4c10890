package segment

import (
	"raddle/api"
	"raddle/batch"
	"raddle/change"
	"raddle/epoch"
)

// deed is what a kind of message does.
type deed struct {
	kind int
	do   func(s *Segment, m api.Msg, x api.Envelope, out *api.Said) api.Errno
}

// deeds lists what there is to hear.
func deeds() []deed {
	return []deed{
		{api.MsgPropose, (*Segment).hearPropose},
		{api.MsgVote, (*Segment).hearVote},
		{api.MsgChange, (*Segment).hearChange},
		{api.MsgNew, (*Segment).hearNew},
		{api.MsgEntry, (*Segment).hearEntry},
	}
}

// Hear hears a message.
func (s *Segment) Hear(m api.Msg, x api.Envelope) (api.Said, api.Errno) {
	if !s.isMade() {
		return api.Said{}, api.ErrNil
	}
	var found deed
look:
	for _, d := range deeds() {
		switch d.kind {
		case m.Kind:
			found = d
			break look
		}
	}
	switch {
	case found.do == nil:
		return api.Said{}, api.ErrMessage
	case x.From == s.me && m.Kind != api.MsgEntry:
		return api.Said{}, api.ErrSender
	}
	// What is refused is refused ahead of anything that is said.
	var out api.Said
	err := found.do(s, m, x, &out)
	return out, err
}

func (s *Segment) hearPropose(m api.Msg, x api.Envelope, out *api.Said) api.Errno {
	switch {
	case x.From != s.leader || m.Epoch != s.epoch.Number || !s.owns(m.Slot):
		return api.ErrOwner
	case s.view != 0:
		return api.ErrView
	}
	if has := s.parts[m.Slot].slot; has.Is {
		if batch.Digest(has.Batch) != batch.Digest(m.Batch) {
			return api.ErrOther
		}
		return api.OK
	}
	if err := s.refuses(m.Slot, m.Batch); err != api.OK {
		return err
	}
	return s.accept(out, m.Slot, 0, m.Batch)
}

func (s *Segment) hearVote(m api.Msg, x api.Envelope, out *api.Said) api.Errno {
	v := m.Vote
	if v.Epoch != s.epoch.Number || !s.owns(v.Slot) {
		return api.ErrOwner
	}
	if err := s.parts[v.Slot].book.Add(x.From, v, x.Tag); err != api.OK {
		return err
	}
	s.goOn(out, v.Slot)
	return api.OK
}

func (s *Segment) hearChange(m api.Msg, x api.Envelope, out *api.Said) api.Errno {
	c := m.Change
	if c.Leader != s.leader {
		return api.ErrOwner
	}
	if err := change.Good(s.keys, s.epoch, c); err != api.OK {
		return err
	}
	has, there := s.changes[x.From]
	switch {
	case there && has.change.View == c.View && change.Body(has.change) == change.Body(c):
		return api.OK
	case there && has.change.View >= c.View:
		return api.ErrOld
	}
	// Nodes' changes alone are counted, and no others are kept.
	if s.isNode(x.From) {
		s.changes[x.From] = heard{change: c, sealed: x}
	}
	s.follow(out)
	return api.OK
}

func (s *Segment) hearNew(m api.Msg, x api.Envelope, out *api.Said) api.Errno {
	switch {
	case m.Epoch != s.epoch.Number || m.Leader != s.leader || m.View < 1:
		return api.ErrOwner
	case x.From != epoch.Primary(s.epoch, s.leader, m.View):
		return api.ErrOwner
	case m.View < s.view:
		return api.ErrView
	}
	l, err := change.Read(s.keys, s.epoch, s.leader, m.View, m.News)
	if err != api.OK {
		return err
	}
	if m.View == s.view && s.isReady() {
		return api.OK
	}
	// A view that was waited for does not get its time anew: else who leads it could take twice the Timeout by beginning late.
	if m.View > s.view {
		s.setView(out, m.View)
	}
	s.acceptAll(out, change.Choose(s.epoch, s.leader, l))
	return api.OK
}

func (s *Segment) hearEntry(m api.Msg, _ api.Envelope, out *api.Said) api.Errno {
	if err := change.Cert(s.keys, s.epoch, api.Commit, m.Batch, m.Cert); err != api.OK {
		return err
	}
	number := m.Cert.Vote.Slot
	if !s.owns(number) {
		return api.ErrOwner
	}
	return s.enter(out, number, m.Batch, m.Cert)
}
