package segment

import (
	"raddle/api"
	"raddle/slot"
)

// Load takes a record.
func (s *Segment) Load(r api.Rec) api.Errno {
	if !s.isMade() {
		return api.ErrNil
	}
	held := r.Cert.Vote.Slot
	switch {
	case r.Kind == api.RecAccept && s.owns(r.Slot):
		return s.loadAccept(r)
	case r.Kind == api.RecHeld && s.owns(held):
		return s.loadHeld(held, r)
	case r.Kind == api.RecView && r.Leader == s.leader:
		s.loadView(r.View)
		return api.OK
	case r.Kind == api.RecEntry && s.owns(held):
		// What is said of it was said when the record came about.
		return s.enter(&api.Said{}, held, r.Batch, r.Cert)
	}
	return api.ErrRecord
}

// Recs tells records that are enough.
func (s *Segment) Recs() []api.Rec {
	if !s.isMade() {
		return nil
	}
	var out api.Said
	// What is held stands ahead of the view: me's change to it is made of that.
	for _, number := range s.order {
		if x := s.parts[number].slot; x.Holds {
			keep(&out, api.Rec{Kind: api.RecAccept, Slot: number, View: x.Held.Cert.Vote.View, Batch: x.Held.Batch})
			keep(&out, api.Rec{Kind: api.RecHeld, Batch: x.Held.Batch, Cert: x.Held.Cert})
		}
	}
	if s.view > 0 {
		keep(&out, api.Rec{Kind: api.RecView, Leader: s.leader, View: s.view})
	}
	for _, number := range s.order {
		p := s.parts[number]
		if x := p.slot; x.Is && !p.holds(x.View) {
			keep(&out, api.Rec{Kind: api.RecAccept, Slot: number, View: x.View, Batch: x.Batch})
		}
		if x := p.slot; x.Decided {
			keep(&out, api.Rec{Kind: api.RecEntry, Batch: x.Entry.Batch, Cert: x.Entry.Cert})
		}
	}
	return out.Recs
}

func (s *Segment) loadAccept(r api.Rec) api.Errno {
	p := s.parts[r.Slot]
	next, err := slot.Accept(p.slot, r.View, r.Batch)
	if err != api.OK {
		return err
	}
	p.slot = next
	s.cast(s.vote(api.Prepare, r.Slot))
	s.view = max(s.view, r.View)
	return api.OK
}

func (s *Segment) loadHeld(number int, r api.Rec) api.Errno {
	p := s.parts[number]
	next, err := slot.Hold(p.slot, r.Cert)
	if err != api.OK {
		return err
	}
	p.slot = next
	s.cast(s.vote(api.Commit, number))
	return api.OK
}

// loadView goes to a view as it was gone to: of what the slots held then, which is what the records ahead of this one say.
func (s *Segment) loadView(view int) {
	s.view = max(s.view, view)
	if view > s.changes[s.me].change.View {
		s.takeAlong(view)
	}
}
