package net

import (
	"math"
	"slices"
	"testing"

	"raddle/api"
	"raddle/change"
	"raddle/envelope"
	"raddle/message"
	"raddle/request"
	"raddle/seal"
)

func four(t *testing.T) *Net {
	t.Helper()
	n := New(4)
	if n == nil {
		t.Fatal("no net")
	}
	return n
}

// letter is an envelope of its own for each number.
func letter(i int) api.Envelope {
	return api.Envelope{From: i % 4, Body: string(rune('a' + i%26)), Tag: api.Tag{byte(i), byte(i >> 8)}}
}

func send(t *testing.T, n *Net, to int, x api.Envelope) {
	t.Helper()
	if err := n.Send(to, x); err != api.OK {
		t.Fatalf("Send(%d, %v): %d", to, x, int(err))
	}
}

// onWay are all packets that are on their way.
func onWay(n *Net) []Packet {
	var out []Packet
	for i := range n.Len() {
		p, _ := n.Look(i)
		out = append(out, p)
	}
	return out
}

// past are all envelopes that were sent.
func past(n *Net) []api.Envelope {
	var out []api.Envelope
	for i := range n.Sent() {
		x, _ := n.Past(i)
		out = append(out, x)
	}
	return out
}

func counts(t *testing.T, n *Net, sent, taken int) {
	t.Helper()
	if s, k := n.Count(); s != sent || k != taken {
		t.Errorf("Count: %d %d, want %d %d", s, k, sent, taken)
	}
}

func wrong() []int {
	return []int{math.MinInt, -2, -1, math.MaxInt - 1, math.MaxInt}
}

// The chapter's example.

func TestExample(t *testing.T) {
	n := four(t)
	x := letter(0)
	send(t, n, 1, x)
	send(t, n, 1, x)
	send(t, n, 2, x)
	if n.Len() != 2 || n.Sent() != 1 {
		t.Error(n.Len(), n.Sent())
	}
}

// P26.1

func TestNew(t *testing.T) {
	for nodes := -5; nodes < 80; nodes++ {
		good := nodes >= 4 && nodes <= 64 && nodes%3 == 1
		n := New(nodes)
		if (n != nil) != good {
			t.Errorf("New(%d): %v", nodes, n != nil)
		}
		if n.Len() != 0 || n.Sent() != 0 {
			t.Errorf("New(%d) has packets", nodes)
		}
		counts(t, n, 0, 0)
		if !good {
			continue
		}
		for _, to := range append(wrong(), nodes) {
			if err := n.Send(to, letter(1)); err != api.ErrArg {
				t.Errorf("of %d nodes to %d: %d", nodes, to, int(err))
			}
		}
		for to := range nodes {
			send(t, n, to, letter(1))
		}
		if n.Len() != nodes || n.Sent() != 1 {
			t.Error(n.Len(), n.Sent())
		}
	}
	for _, nodes := range wrong() {
		if New(nodes) != nil {
			t.Errorf("New(%d)", nodes)
		}
	}
}

func TestSend(t *testing.T) {
	n := four(t)
	x, y := letter(1), letter(2)
	alike := []api.Envelope{x, {From: 3, Body: x.Body, Tag: x.Tag}, {From: x.From, Body: "other", Tag: x.Tag}, {From: x.From, Body: x.Body, Tag: api.Tag{9}}}
	var want []Packet
	for _, e := range append(alike, y) {
		for _, to := range []int{3, 0} {
			send(t, n, to, e)
			want = append(want, Packet{to, e})
			// It is on its way already.
			send(t, n, to, e)
			send(t, n, 3, x)
			if !slices.Equal(onWay(n), want) {
				t.Fatalf("%v, want %v", onWay(n), want)
			}
		}
	}
	counts(t, n, 10, 0)
	if !slices.Equal(past(n), append(alike, y)) {
		t.Error(past(n))
	}
	// What was taken may be sent again: it is a packet more, but no other envelope.
	if p, err := n.Take(1); err != api.OK || p != want[1] {
		t.Error(p, int(err))
	}
	send(t, n, want[1].To, want[1].X)
	want = append(slices.Delete(want, 1, 2), want[1])
	want[len(want)-1] = Packet{0, x}
	if !slices.Equal(onWay(n), want) || n.Sent() != 5 {
		t.Error(onWay(n), n.Sent())
	}
	counts(t, n, 11, 1)
}

func TestSendFull(t *testing.T) {
	n := four(t)
	for i := range api.MaxPackets {
		send(t, n, i%4, letter(i/4))
	}
	if n.Len() != api.MaxPackets || n.Sent() != api.MaxPackets/4 {
		t.Fatal(n.Len(), n.Sent())
	}
	x := api.Envelope{From: 1, Body: "more"}
	claim := envelope.Claim{ID: 1, Body: "more"}
	if err := n.Send(4, x); err != api.ErrArg {
		t.Error(int(err))
	}
	if err := n.Send(0, x); err != api.ErrFull || n.Len() != api.MaxPackets || n.Sent() != api.MaxPackets/4 || n.Knows(claim) {
		t.Error(int(err), n.Len(), n.Sent(), n.Knows(claim))
	}
	counts(t, n, api.MaxPackets, 0)
	// One that is on its way is nothing to do.
	send(t, n, 3, letter(0))
	if p, err := n.Take(api.MaxPackets - 1); err != api.OK || p != (Packet{3, letter(api.MaxPackets/4 - 1)}) {
		t.Error(p, int(err))
	}
	send(t, n, 0, x)
	if p, err := n.Look(api.MaxPackets - 1); err != api.OK || p != (Packet{0, x}) || !n.Knows(claim) {
		t.Error(p, int(err))
	}
	if err := n.Send(1, x); err != api.ErrFull {
		t.Error(int(err))
	}
	counts(t, n, api.MaxPackets+1, 1)
}

// P26.2

func TestTake(t *testing.T) {
	n := four(t)
	var want []Packet
	add := func(i int) {
		send(t, n, i%4, letter(i))
		want = append(want, Packet{i % 4, letter(i)})
	}
	for i := range 12 {
		add(i)
	}
	for k, at := range []int{0, 0, 9, 4, 1, 6, 0, 2, 3, 1, 1, 0, 1, 0} {
		for _, i := range append(wrong(), len(want)) {
			if p, err := n.Take(i); err != api.ErrPacket || p != (Packet{}) {
				t.Errorf("Take(%d) of %d: %d", i, len(want), int(err))
			}
			if p, err := n.Look(i); err != api.ErrPacket || p != (Packet{}) {
				t.Errorf("Look(%d) of %d: %d", i, len(want), int(err))
			}
		}
		if p, err := n.Look(at); err != api.OK || p != want[at] || n.Len() != len(want) {
			t.Errorf("Look(%d): %v", at, p)
		}
		if p, err := n.Take(at); err != api.OK || p != want[at] {
			t.Errorf("Take(%d): %v", at, p)
		}
		want = slices.Delete(want, at, at+1)
		if k%4 == 3 {
			add(20 + k)
		}
		if !slices.Equal(onWay(n), want) || n.Len() != len(want) {
			t.Fatalf("%v, want %v", onWay(n), want)
		}
	}
	counts(t, n, 15, 14)
	if n.Sent() != 15 {
		t.Error(n.Sent())
	}
}

func TestPast(t *testing.T) {
	n := four(t)
	for i := range 5 {
		for _, at := range append(wrong(), i) {
			if x, err := n.Past(at); err != api.ErrPacket || x != (api.Envelope{}) {
				t.Errorf("Past(%d) of %d: %d", at, i, int(err))
			}
		}
		send(t, n, i%4, letter(i))
		send(t, n, (i+1)%4, letter(i/2))
		n.Take(0)
		if x, err := n.Past(i); err != api.OK || x != letter(i) || n.Sent() != i+1 {
			t.Errorf("Past(%d): %v %d", i, x, int(err))
		}
	}
}

// P26.3, P26.4

func TestNote(t *testing.T) {
	n := four(t)
	c := envelope.Claim{ID: 5, Body: "b", Tag: api.Tag{1}}
	others := []envelope.Claim{{}, {ID: 4, Body: "b", Tag: api.Tag{1}}, {ID: 5, Body: "", Tag: api.Tag{1}}, {ID: 5, Body: "b", Tag: api.Tag{2}}, {ID: -1}}
	if n.Knows(c) {
		t.Error("known")
	}
	for range 2 {
		if err := n.Note(c); err != api.OK || !n.Knows(c) {
			t.Error(int(err))
		}
	}
	for _, o := range others {
		if n.Knows(o) {
			t.Errorf("%v is known", o)
		}
	}
	for _, o := range others {
		n.Note(o)
		if !n.Knows(o) {
			t.Errorf("%v is not known", o)
		}
	}
	counts(t, n, 0, 0)
}

// All that an envelope claims is known, of each kind of message that has claims in it.
func TestKnowsClaims(t *testing.T) {
	k := seal.Derive("k", 6)
	r, err := request.Make(k, 4, 1, 7, "data")
	if err != api.OK {
		t.Fatal(int(err))
	}
	b := api.Batch{Requests: []api.Request{r}}
	vote := api.Vote{Kind: api.Prepare, Epoch: 1, Slot: 1}
	cert := api.Cert{Vote: vote, Signs: []api.Sign{{Node: 1, Tag: api.Tag{7}}, {Node: 2, Tag: api.Tag{8}}}}
	moves := api.Change{Epoch: 1, Leader: 1, View: 1, Held: []api.Held{{Batch: b, Cert: cert}}}
	ofClient := envelope.Claim{ID: 5, Body: request.Body(r), Tag: r.Tag}
	ofSigners := []envelope.Claim{{ID: 1, Body: message.Vote(vote), Tag: api.Tag{7}}, {ID: 2, Body: message.Vote(vote), Tag: api.Tag{8}}}
	moved, err := envelope.Seal(k, 2, change.Body(moves))
	if err != api.OK {
		t.Fatal(int(err))
	}
	ofChanger := envelope.Claim{ID: 2, Body: moved.Body, Tag: moved.Tag}
	for _, x := range []struct {
		m    api.Msg
		want []envelope.Claim
	}{
		{api.Msg{Kind: api.MsgPropose, Epoch: 1, Slot: 1, Batch: b}, []envelope.Claim{ofClient}},
		{api.Msg{Kind: api.MsgVote, Vote: vote}, nil},
		{api.Msg{Kind: api.MsgChange, Change: moves}, append(ofSigners, ofClient)},
		{api.Msg{Kind: api.MsgNew, Epoch: 1, Leader: 1, View: 1, News: []api.Envelope{moved}}, append(ofSigners, ofClient, ofChanger)},
		{api.Msg{Kind: api.MsgEntry, Batch: b, Cert: cert}, append(ofSigners, ofClient)},
		{api.Msg{Kind: api.MsgState, State: "s", Signs: cert.Signs}, []envelope.Claim{{ID: 1, Tag: api.Tag{7}}, {ID: 2, Tag: api.Tag{8}}}},
	} {
		body, err := message.Encode(x.m)
		if err != api.OK {
			t.Fatal(int(err))
		}
		n := four(t)
		sent := api.Envelope{From: 3, Body: body, Tag: api.Tag{3}}
		own := envelope.Claim{ID: 3, Body: body, Tag: api.Tag{3}}
		if n.Knows(own) {
			t.Error("known ahead of it")
		}
		send(t, n, 0, sent)
		for _, c := range append(x.want, own) {
			if !n.Knows(c) {
				t.Errorf("kind %d: %v is not known", x.m.Kind, c)
			}
		}
		if len(n.known) != len(x.want)+1 {
			t.Errorf("kind %d: %d are known, want %d", x.m.Kind, len(n.known), len(x.want)+1)
		}
		// It stays known when the packet is gone.
		n.Take(0)
		if !n.Knows(own) {
			t.Error("forgotten")
		}
	}
	// What is no message claims nothing but who signed it; so does one of no node at all.
	n := four(t)
	send(t, n, 0, api.Envelope{From: -7, Body: "no message"})
	if len(n.known) != 1 || !n.Knows(envelope.Claim{ID: -7, Body: "no message"}) {
		t.Error(n.known)
	}
}

func TestNoNet(t *testing.T) {
	for _, n := range []*Net{nil, {}} {
		if err := n.Send(0, api.Envelope{}); err != api.ErrNil {
			t.Error(int(err))
		}
		if err := n.Send(-1, api.Envelope{}); err != api.ErrNil {
			t.Error(int(err))
		}
		if p, err := n.Look(0); err != api.ErrNil || p != (Packet{}) {
			t.Error(int(err))
		}
		if p, err := n.Take(0); err != api.ErrNil || p != (Packet{}) {
			t.Error(int(err))
		}
		if x, err := n.Past(0); err != api.ErrNil || x != (api.Envelope{}) {
			t.Error(int(err))
		}
		if err := n.Note(envelope.Claim{}); err != api.ErrNil || n.Knows(envelope.Claim{}) {
			t.Error(int(err))
		}
		if n.Len() != 0 || n.Sent() != 0 {
			t.Error(n.Len(), n.Sent())
		}
		counts(t, n, 0, 0)
	}
}

// P26.5, and that a net is what a list would be.
func TestLikeAList(t *testing.T) {
	state := uint64(1)
	below := func(n int) int {
		state = state*6364136223846793005 + 1442695040888963407
		return int(state>>33) % n
	}
	n := four(t)
	var way []Packet
	var sent []api.Envelope
	went, taken := 0, 0
	for range 20000 {
		switch {
		case below(5) < 3:
			p := Packet{below(4), letter(below(30))}
			send(t, n, p.To, p.X)
			if !slices.Contains(way, p) {
				way = append(way, p)
				went++
			}
			if !slices.Contains(sent, p.X) {
				sent = append(sent, p.X)
			}
		case len(way) > 0:
			i := below(len(way))
			if p, err := n.Take(i); err != api.OK || p != way[i] {
				t.Fatal(p, int(err))
			}
			way = slices.Delete(way, i, i+1)
			taken++
		}
		if n.Len() != len(way) || n.Sent() != len(sent) {
			t.Fatal(n.Len(), n.Sent())
		}
	}
	if !slices.Equal(onWay(n), way) || !slices.Equal(past(n), sent) {
		t.Error(onWay(n), way)
	}
	counts(t, n, went, taken)
}
