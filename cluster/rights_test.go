package cluster

import (
	"slices"
	"testing"

	"raddle/api"
	"raddle/change"
	"raddle/message"
	"raddle/net"
	"raddle/state"
)

// P27.2, Inject

func TestInject(t *testing.T) {
	w := begun(t, conf())
	body := w.status(1, 1)
	for _, i := range append(wrong(), 0, 1, 3, 4, 6) {
		w.refuses(Act{Kind: Inject, Node: i, N: 0, Data: body}, api.ErrRights)
		w.refuses(Act{Kind: Inject, Node: i, N: 9, Data: body}, api.ErrRights)
	}
	for _, i := range append(wrong(), 4) {
		w.refuses(Act{Kind: Inject, Node: 2, N: i, Data: body}, api.ErrArg)
	}
	// To itself, and to one that is down, it may speak; when it is down itself, too.
	w.do(Act{Kind: Crash, Node: 3}, api.OK)
	w.do(Act{Kind: Crash, Node: 2}, api.OK)
	var want []net.Packet
	for to := range 4 {
		w.do(Act{Kind: Inject, Node: 2, N: to, Data: body}, api.OK)
		want = append(want, net.Packet{To: to, X: w.seal(2, body)})
	}
	if got := w.way(); !slices.Equal(got, want) || w.Sent() != 1 {
		t.Errorf("%+v", got)
	}
	// What is on its way already is no error, and no news.
	w.refuses(Act{Kind: Inject, Node: 2, N: 1, Data: body}, api.OK)
	// Without faulty nodes nobody may.
	c := conf()
	c.Faulty = nil
	w = begun(t, c)
	w.refuses(Act{Kind: Inject, Node: 2, N: 0, Data: body}, api.ErrRights)
}

// Bytes that are no message claim nothing.
func TestInjectAnyBytes(t *testing.T) {
	w := begun(t, conf())
	for i, data := range []string{"", "x", w.status(1, 1) + "more", string(make([]byte, api.MaxBody))} {
		w.do(Act{Kind: Inject, Node: 2, N: 1, Data: data}, api.OK)
		if w.Len() != i+1 {
			t.Error(w.Len())
		}
	}
	long := string(make([]byte, api.MaxBody+1))
	w.refuses(Act{Kind: Inject, Node: 2, N: 1, Data: long}, api.ErrLong)
	w.refuses(Act{Kind: Inject, Node: 2, N: 4, Data: long}, api.ErrArg)
	for range 4 {
		if err := w.Do(Act{Kind: Deliver}); err == api.OK {
			t.Error("it is heard")
		}
	}
	if _, _, _, rejects := w.Sizes(1); rejects != 4 {
		t.Error(rejects)
	}
}

// injects tests whether node 2 has the right to say a message to node 0; what is refused changes nothing.
func (w *world) injects(what string, m api.Msg, want api.Errno) {
	w.t.Helper()
	a := Act{Kind: Inject, Node: 2, N: 0, Data: w.bytes(m)}
	if want != api.OK {
		was := w.seen()
		if err := w.Do(a); err != want || w.seen() != was {
			w.t.Errorf("%s: %d, want %d", what, int(err), int(want))
		}
		// That N is no node is told behind it.
		a.N = 9
		if err := w.Do(a); err != want {
			w.t.Errorf("%s, to nobody: %d, want %d", what, int(err), int(want))
		}
		return
	}
	many := w.Len()
	if err := w.Do(a); err != want || w.Len() != many+1 {
		w.t.Errorf("%s: %d, %d packets behind %d", what, int(err), w.Len(), many)
	}
}

func TestRightsOfRequests(t *testing.T) {
	w := begun(t, conf())
	of := func(slot int, l ...api.Request) api.Msg {
		return api.Msg{Kind: api.MsgPropose, Epoch: 1, Slot: slot, Batch: api.Batch{Requests: l}}
	}
	honest, liar := w.request(1, 1, "a"), w.request(2, 1, "a")
	forged := honest
	forged.Data = "b"
	w.injects("of an honest client", of(1, honest), api.ErrRights)
	w.injects("of an honest client, behind others", of(1, liar, forged, honest), api.ErrRights)
	w.injects("of a liar", of(2, liar), api.OK)
	w.injects("forged", of(3, forged), api.OK)
	none := honest
	none.Client = 8
	w.injects("of nobody", of(4, none), api.OK)
	w.injects("of an honest client, as ever", of(1, honest), api.ErrRights)
	w.do(Act{Kind: Submit, Node: 3, N: 1, M: 1, Data: "a"}, api.OK)
	w.injects("submitted", of(1, honest), api.OK)
	w.injects("another number", of(1, w.request(1, 2, "a")), api.ErrRights)
	entry := api.Msg{Kind: api.MsgEntry, Batch: api.Batch{Requests: []api.Request{w.request(1, 2, "a")}}, Cert: api.Cert{Vote: w.vote(api.Commit, 1, 0, 1, api.Batch{})}}
	w.injects("an entry", entry, api.ErrRights)
	held := api.Msg{Kind: api.MsgChange, Change: api.Change{Epoch: 1, View: 1, Held: []api.Held{{Batch: entry.Batch, Cert: entry.Cert}}}}
	w.injects("held", held, api.ErrRights)
	// A request whose submission was refused is known all the same, if it was submitted.
	w.do(Act{Kind: Submit, Node: 3, N: 1, M: 2, Data: "b"}, api.OK)
	w.do(Act{Kind: Submit, Node: 3, N: 1, M: 2, Data: "a"}, api.ErrOther)
	w.injects("not submitted", of(1, w.request(1, 2, "a")), api.ErrRights)
	w.injects("submitted", of(1, w.request(1, 2, "b")), api.OK)
}

func TestRightsOfVotes(t *testing.T) {
	w := begun(t, conf())
	v := w.vote(api.Prepare, 1, 0, 2, api.Batch{})
	held := func(c api.Cert) api.Msg {
		return api.Msg{Kind: api.MsgChange, Change: api.Change{Epoch: 1, Leader: 1, View: 1, Held: []api.Held{{Cert: c}}}}
	}
	bad := w.cert(v, 0, 1, 3)
	for i := range bad.Signs {
		bad.Signs[i].Tag[7]++
	}
	w.injects("its own sign", held(w.cert(v, 2)), api.OK)
	w.injects("wrong signs", held(bad), api.OK)
	w.injects("one right sign", held(w.cert(v, 2, 3)), api.ErrRights)
	w.injects("of an entry", api.Msg{Kind: api.MsgEntry, Cert: w.cert(v, 1)}, api.ErrRights)
	// A client's key is no less its own, though it never votes.
	w.injects("an honest client's sign", held(w.cert(v, 4)), api.ErrRights)
	w.injects("a liar's sign", held(w.cert(v, 6)), api.OK)
	w.injects("nobody's sign", held(api.Cert{Vote: v, Signs: []api.Sign{{Node: 60}}}), api.OK)
	// Node 1 proposes, and votes; node 0 hears it, and votes.
	w.dropAll()
	w.do(Act{Kind: Tick, Node: 1}, api.OK)
	w.do(Act{Kind: Deliver}, api.OK)
	w.injects("what was said", held(w.cert(v, 0, 1, 2)), api.OK)
	w.injects("what was not said", held(w.cert(v, 0, 1, 2, 3)), api.ErrRights)
	commit := w.vote(api.Commit, 1, 0, 2, api.Batch{})
	w.injects("another vote", api.Msg{Kind: api.MsgEntry, Cert: w.cert(commit, 0)}, api.ErrRights)
	// The bytes of another's message are no claim: they are sealed by who says them.
	w.injects("another's vote", api.Msg{Kind: api.MsgVote, Vote: v}, api.OK)
}

func TestRightsOfNews(t *testing.T) {
	w := begun(t, conf())
	body := change.Body(api.Change{Epoch: 1, Leader: 2, View: 1})
	news := func(l ...api.Envelope) api.Msg {
		return api.Msg{Kind: api.MsgNew, Epoch: 1, Leader: 2, View: 1, News: l}
	}
	v := w.vote(api.Prepare, 1, 0, 2, api.Batch{})
	inner := change.Body(api.Change{Epoch: 1, Leader: 1, View: 1, Held: []api.Held{{Cert: w.cert(v, 0)}}})
	bad := w.seal(1, body)
	bad.Tag[0]++
	w.injects("its own", news(w.seal(2, body)), api.OK)
	w.injects("another's", news(w.seal(2, body), w.seal(1, body)), api.ErrRights)
	w.injects("a wrong tag", news(w.seal(2, body), bad), api.OK)
	w.injects("of nobody", news(api.Envelope{From: 64, Body: body}), api.OK)
	w.injects("what is within its own", news(w.seal(2, inner)), api.ErrRights)
	w.injects("what is within, forged", news(api.Envelope{From: 1, Body: inner}), api.ErrRights)
	w.injects("a request within", news(w.seal(2, w.propose(1, 3, w.request(0, 1, "a")))), api.ErrRights)
	// Within the News of News nothing is looked at, as Claims does not.
	w.injects("far within", news(w.seal(2, w.bytes(news(w.seal(1, body))))), api.OK)
	// An empty body is one, too.
	w.injects("nothing, signed", news(w.seal(1, "")), api.ErrRights)
	w.injects("nothing, not signed", news(api.Envelope{From: 1}), api.OK)
	// What was sent may be told.
	w.do(Act{Kind: Tick, Node: 1}, api.OK)
	x, _ := w.Past(w.Sent() - 1)
	if x.From != 1 {
		t.Fatal(x)
	}
	w.injects("what was said", news(x), api.OK)
	w.injects("what was said, in another's name", news(api.Envelope{From: 0, Body: x.Body, Tag: x.Tag}), api.OK)
	w.injects("what would be said by another", news(w.seal(0, x.Body)), api.ErrRights)
}

func TestRightsOfStates(t *testing.T) {
	w := begun(t, conf())
	s := w.second()
	mark := message.Mark(1, state.Digest(s))
	of := func(text string, l ...api.Sign) api.Msg {
		return api.Msg{Kind: api.MsgState, State: text, Signs: l}
	}
	within := func(m api.Msg) api.Msg {
		return api.Msg{Kind: api.MsgNew, Epoch: 1, Leader: 2, View: 1, News: []api.Envelope{w.seal(2, w.bytes(m))}}
	}
	text := state.Bytes(s)
	w.injects("its own sign", of(text, w.signs(mark, 2)...), api.OK)
	w.injects("an honest sign", of(text, w.signs(mark, 1)...), api.ErrRights)
	w.injects("an honest sign behind its own", of(text, w.signs(mark, 2, 3)...), api.ErrRights)
	w.injects("an honest sign within", within(of(text, w.signs(mark, 3)...)), api.ErrRights)
	w.injects("its own sign within", within(of(text, w.signs(mark, 2)...)), api.OK)
	w.injects("a sign of something else", of(text, w.signs(message.Mark(2, state.Digest(s)), 1)...), api.OK)
	// Bytes that are no state, or none of the config: there is no mark to sign.
	w.injects("no state", of("x", w.signs(mark, 1)...), api.OK)
	w.injects("a cut state", of(text[:len(text)-1], w.signs(mark, 1)...), api.OK)
	w.injects("an honest tag of nothing", of("x", w.signs("", 1)...), api.ErrRights)
	w.injects("an honest tag of nothing, within", within(of("x", w.signs("", 1)...)), api.ErrRights)
	w.injects("a sign of nothing", of(text, w.signs("", 1)...), api.OK)
	// That tags came in a message does not make them known as those of a mark: the same ones under the state are refused.
	w.injects("no state, as ever", of("y", w.signs(mark, 0, 1, 3)...), api.OK)
	w.injects("an honest sign, as ever", of(text, w.signs(mark, 0, 1, 3)...), api.ErrRights)
	first := state.First(w.config)
	w.injects("of the first epoch", of(state.Bytes(first), w.signs(message.Mark(0, state.Digest(first)), 1)...), api.ErrRights)
}

// Marks that were said may be told, under their state.
func TestRightsOfMarks(t *testing.T) {
	w := begun(t, conf())
	for range 8 {
		w.tickAll()
	}
	s := w.second()
	mark := message.Mark(1, state.Digest(s))
	w.injects("said", api.Msg{Kind: api.MsgState, State: state.Bytes(s), Signs: w.signs(mark, 0, 1, 3)}, api.OK)
	late := begun(t, conf())
	late.injects("not said", api.Msg{Kind: api.MsgState, State: state.Bytes(s), Signs: late.signs(mark, 0, 1, 3)}, api.ErrRights)
}
