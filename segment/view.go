package segment

import (
	"math"

	"raddle/api"
	"raddle/change"
	"raddle/envelope"
	"raddle/epoch"
	"raddle/message"
	"raddle/quorum"
)

// Tick lets time go on.
func (s *Segment) Tick() api.Said {
	var out api.Said
	if !s.isMade() || s.isDone() || !s.ages() {
		return out
	}
	s.age++
	if s.age == s.epoch.Config.Timeout {
		s.goTo(&out, s.view+1)
	}
	return out
}

// Again tells what is to be said again.
func (s *Segment) Again() []string {
	if !s.isMade() || s.isDone() {
		return nil
	}
	var out api.Said
	for _, number := range s.order {
		if p := s.parts[number]; !p.slot.Decided && p.accepts(s.view) {
			s.sayAgain(&out, number)
		}
	}
	if own, there := s.changes[s.me]; there && !s.isReady() {
		say(&out, change.Body(own.change))
	}
	if len(s.news) > 0 && s.newsOf == s.view {
		say(&out, s.beginning())
	}
	return out.Bodies
}

// sayAgain says what me has said of a slot that has accepted a batch in the segment's view.
func (s *Segment) sayAgain(out *api.Said, number int) {
	p := s.parts[number]
	if s.me == s.leader && s.view == 0 {
		say(out, s.proposal(number, p.slot.Batch))
	}
	if !s.isReady() {
		return
	}
	say(out, message.Vote(s.vote(api.Prepare, number)))
	if p.holds(s.view) {
		say(out, message.Vote(s.vote(api.Commit, number)))
	}
}

// ages tells whether time counts: while the view runs here, or enough nodes are there to begin it.
func (s *Segment) ages() bool {
	if s.view == math.MaxInt {
		// There is no number for the next view.
		return false
	}
	return s.isReady() || s.there() >= s.most()
}

// there tells how many nodes are in the segment's view, or beyond it; me is.
func (s *Segment) there() int {
	many := 1
	for _, view := range s.othersViews() {
		if view >= s.view {
			many++
		}
	}
	return many
}

// othersViews tells node by node, but for me, the view of its change; 0 of a node without one.
func (s *Segment) othersViews() []int {
	var out []int
	for node := range s.epoch.Config.Nodes {
		if node != s.me {
			out = append(out, s.changes[node].change.View)
		}
	}
	return out
}

// follow goes to the view to which at least one honest node went, if that is a later one; else the view begins, if it can.
func (s *Segment) follow(out *api.Said) {
	view := quorum.Nth(s.othersViews(), quorum.Some(s.epoch.Config.Nodes))
	if view > s.view {
		s.goTo(out, view)
		return
	}
	s.begin(out)
}

// goTo goes to a view, and says what is taken along.
func (s *Segment) goTo(out *api.Said, view int) {
	s.setView(out, view)
	s.takeAlong(view)
	say(out, change.Body(s.changes[s.me].change))
	s.begin(out)
}

// setView makes a view the segment's, with its whole time.
func (s *Segment) setView(out *api.Said, view int) {
	s.view, s.age = view, 0
	keep(out, api.Rec{Kind: api.RecView, Leader: s.leader, View: view})
}

// takeAlong makes me's change to a view of what its slots hold.
func (s *Segment) takeAlong(view int) {
	c := api.Change{Epoch: s.epoch.Number, Leader: s.leader, View: view}
	for _, number := range s.order {
		if x := s.parts[number].slot; x.Holds {
			c.Held = append(c.Held, x.Held)
		}
	}
	sealed, _ := envelope.Seal(s.keys, s.me, change.Body(c))
	s.changes[s.me] = heard{change: c, sealed: sealed}
}

// begin begins the view, if me leads it, and enough nodes have come to it.
func (s *Segment) begin(out *api.Said) {
	if s.view == 0 || epoch.Primary(s.epoch, s.leader, s.view) != s.me || s.isReady() {
		return
	}
	var news []api.Envelope
	var changes []api.Change
gather:
	for node := range s.epoch.Config.Nodes {
		h, there := s.changes[node]
		switch {
		case len(news) == s.most():
			break gather
		case there && h.change.View == s.view:
			news, changes = append(news, h.sealed), append(changes, h.change)
		}
	}
	if len(news) < s.most() {
		return
	}
	s.news, s.newsOf = news, s.view
	say(out, s.beginning())
	s.acceptAll(out, change.Choose(s.epoch, s.leader, changes))
}

// beginning tells the bytes with which me begins its view.
func (s *Segment) beginning() string {
	return bytesOf(api.Msg{Kind: api.MsgNew, Epoch: s.epoch.Number, Leader: s.leader, View: s.newsOf, News: s.news})
}
