package change

import (
	"math"
	"slices"
	"testing"

	"raddle/api"
	"raddle/batch"
	"raddle/envelope"
	"raddle/epoch"
	"raddle/message"
	"raddle/quorum"
	"raddle/seal"
)

// Four nodes, two slots a leader, epoch 3 from slot 9 on: leader 1's slots are 10 and 14, leader 2's 11 and 15.
var keys = seal.Derive("k", 6)

func config() api.Config {
	return api.Config{Nodes: 4, Clients: 2, Window: 20, Buckets: 4, Cap: 2, Slots: 2, Requests: 2, Timeout: 12, Last: 9}
}

func epoch3(t *testing.T) epoch.Epoch {
	t.Helper()
	e, err := epoch.New(config(), 3, 9, nil)
	if err != api.OK {
		t.Fatal(int(err))
	}
	return e
}

// asks is a batch of one request, by which one is told from another.
func asks(num int) api.Batch {
	return api.Batch{Requests: []api.Request{{Client: 1, Num: num, Data: "data", Tag: api.Tag{byte(num)}}}}
}

func vote(kind, view, slot int, b api.Batch) api.Vote {
	return api.Vote{Kind: kind, Epoch: 3, View: view, Slot: slot, Digest: batch.Digest(b)}
}

// signs are those nodes' signs of a body, in that order.
func signs(body string, nodes ...int) []api.Sign {
	var out []api.Sign
	for _, n := range nodes {
		tag, _ := keys.Sign(n, body)
		out = append(out, api.Sign{Node: n, Tag: tag})
	}
	return out
}

func cert(v api.Vote, nodes ...int) api.Cert {
	return api.Cert{Vote: v, Signs: signs(message.Vote(v), nodes...)}
}

// held is a batch that nodes 0, 2 and 3 prepared.
func held(view, slot int, b api.Batch) api.Held {
	return api.Held{Batch: b, Cert: cert(vote(api.Prepare, view, slot, b), 0, 2, 3)}
}

// to is a change of leader 1's slots.
func to(view int, l ...api.Held) api.Change {
	return api.Change{Epoch: 3, Leader: 1, View: view, Held: l}
}

// with is a change that something is done to, which leaves the other one's lists alone.
func with(c api.Change, do func(c *api.Change)) api.Change {
	c.Held = slices.Clone(c.Held)
	do(&c)
	return c
}

// sealed is an envelope of a body.
func sealed(t *testing.T, from int, body string) api.Envelope {
	t.Helper()
	x, err := envelope.Seal(keys, from, body)
	if err != api.OK {
		t.Fatal(int(err))
	}
	return x
}

// sent are those nodes' envelopes of one change.
func sent(t *testing.T, c api.Change, nodes ...int) []api.Envelope {
	t.Helper()
	var out []api.Envelope
	for _, n := range nodes {
		out = append(out, sealed(t, n, Body(c)))
	}
	return out
}

func is(t *testing.T, name string, got, want api.Errno) {
	t.Helper()
	if got != want {
		t.Errorf("%s: %d, want %d", name, int(got), int(want))
	}
}

// sameChange is told by messages, which have all of a change.
func sameChange(a, b api.Change) bool {
	return message.Same(api.Msg{Change: a}, api.Msg{Change: b})
}

// badEpochs are those that may not be.
func badEpochs(t *testing.T) []epoch.Epoch {
	var out []epoch.Epoch
	for _, do := range []func(e *epoch.Epoch){
		func(e *epoch.Epoch) { *e = epoch.Epoch{} },
		func(e *epoch.Epoch) { e.Number = 0 },
		func(e *epoch.Epoch) { e.Number = 10 },
		func(e *epoch.Epoch) { e.Start = 0 },
		func(e *epoch.Epoch) { e.Start = math.MaxInt },
		func(e *epoch.Epoch) { e.Leaders = nil },
		func(e *epoch.Epoch) { e.Leaders = []int{2, 1} },
		func(e *epoch.Epoch) { e.Config.Nodes = 5 },
	} {
		e := epoch3(t)
		do(&e)
		out = append(out, e)
	}
	return out
}

// P19.1: Cert

func TestCert(t *testing.T) {
	e := epoch3(t)
	for _, kind := range []int{api.Prepare, api.Commit} {
		for _, b := range []api.Batch{asks(1), {}, batch.None()} {
			for _, view := range []int{0, 1, api.MaxNum} {
				for slot := 9; slot < 17; slot++ {
					for _, nodes := range [][]int{{0, 1, 2}, {0, 2, 3}, {1, 2, 3}, {0, 1, 2, 3}} {
						is(t, "a cert", Cert(keys, e, kind, b, cert(vote(kind, view, slot, b), nodes...)), api.OK)
					}
				}
			}
		}
	}
}

func TestCertRefuses(t *testing.T) {
	e := epoch3(t)
	v := vote(api.Commit, 2, 10, asks(1))
	good := cert(v, 0, 1, 3)
	of := func(do func(v *api.Vote)) api.Cert {
		x := v
		do(&x)
		return cert(x, 0, 1, 3)
	}
	by := func(l []api.Sign) api.Cert { return api.Cert{Vote: v, Signs: l} }
	body := message.Vote(v)
	for _, x := range []struct {
		name string
		kind int
		b    api.Batch
		c    api.Cert
		want api.Errno
	}{
		{"another kind is asked for", api.Prepare, asks(1), good, api.ErrChange},
		{"the kind 0 is asked for", 0, asks(1), good, api.ErrChange},
		{"it has another kind", api.Commit, asks(1), of(func(v *api.Vote) { v.Kind = api.Prepare }), api.ErrChange},
		{"the epoch ahead", api.Commit, asks(1), of(func(v *api.Vote) { v.Epoch = 2 }), api.ErrChange},
		{"the next epoch", api.Commit, asks(1), of(func(v *api.Vote) { v.Epoch = 4 }), api.ErrChange},
		{"the slot ahead of the first", api.Commit, asks(1), of(func(v *api.Vote) { v.Slot = 8 }), api.ErrChange},
		{"the slot behind the last", api.Commit, asks(1), of(func(v *api.Vote) { v.Slot = 17 }), api.ErrChange},
		{"slot 0", api.Commit, asks(1), of(func(v *api.Vote) { v.Slot = 0 }), api.ErrChange},
		{"the least slot", api.Commit, asks(1), of(func(v *api.Vote) { v.Slot = math.MinInt }), api.ErrChange},
		{"the greatest slot", api.Commit, asks(1), of(func(v *api.Vote) { v.Slot = math.MaxInt }), api.ErrChange},
		{"another batch", api.Commit, asks(2), good, api.ErrChange},
		{"nothing", api.Commit, batch.None(), good, api.ErrChange},
		{"no requests", api.Commit, api.Batch{}, good, api.ErrChange},
		{"another digest", api.Commit, asks(1), of(func(v *api.Vote) { v.Digest[31]++ }), api.ErrChange},
		{"another kind, and no signs", api.Prepare, asks(1), by(nil), api.ErrChange},
		{"no signs", api.Commit, asks(1), by(nil), api.ErrSigns},
		{"two signs", api.Commit, asks(1), by(signs(body, 0, 1)), api.ErrSigns},
		{"one node twice", api.Commit, asks(1), by(signs(body, 0, 1, 1)), api.ErrSigns},
		{"falling nodes", api.Commit, asks(1), by(signs(body, 0, 3, 1)), api.ErrSigns},
		{"a client", api.Commit, asks(1), by(signs(body, 0, 1, 4)), api.ErrSigns},
		{"a node below 0", api.Commit, asks(1), by(append([]api.Sign{{Node: -1}}, signs(body, 0, 1)...)), api.ErrSigns},
		{"one sign too many", api.Commit, asks(1), by(signs(body, 0, 1, 2, 3, 4)), api.ErrSigns},
		{"another vote's signs", api.Commit, asks(1), by(signs(message.Vote(vote(api.Commit, 1, 10, asks(1))), 0, 1, 3)), api.ErrSigns},
		{"one wrong sign", api.Commit, asks(1), by(append(signs(body, 0, 1), signs("", 3)...)), api.ErrSigns},
		{"a wrong sign behind enough", api.Commit, asks(1), by(append(signs(body, 0, 1, 2), signs("", 3)...)), api.ErrSigns},
		{"a view that may not be told", api.Commit, asks(1), api.Cert{Vote: vote(api.Commit, api.MaxNum+1, 10, asks(1)), Signs: good.Signs}, api.ErrSigns},
		{"a view below 0", api.Commit, asks(1), api.Cert{Vote: vote(api.Commit, -1, 10, asks(1)), Signs: good.Signs}, api.ErrSigns},
	} {
		is(t, x.name, Cert(keys, e, x.kind, x.b, x.c), x.want)
	}
	is(t, "the same, right", Cert(keys, e, api.Commit, asks(1), good), api.OK)
}

func TestCertInOrder(t *testing.T) {
	e := epoch3(t)
	good := cert(vote(api.Prepare, 0, 10, asks(1)), 0, 1, 3)
	for i, bad := range badEpochs(t) {
		for _, k := range []*seal.Keys{keys, nil, {}} {
			if err := Cert(k, bad, api.Commit, asks(2), good); err != api.ErrEpoch {
				t.Errorf("epoch %d: %d", i, int(err))
			}
		}
	}
	for _, k := range []*seal.Keys{nil, {}} {
		is(t, "no keys, another kind", Cert(k, e, api.Commit, asks(1), good), api.ErrChange)
		is(t, "no keys", Cert(k, e, api.Prepare, asks(1), good), api.ErrNil)
		is(t, "no keys, no signs", Cert(k, e, api.Prepare, asks(1), api.Cert{Vote: good.Vote}), api.ErrNil)
	}
	// Fewer keys than nodes: a zero tag is nobody's.
	few := seal.Derive("k", 2)
	is(t, "a node without a key", Cert(few, e, api.Prepare, asks(1), api.Cert{Vote: good.Vote, Signs: append(slices.Clone(good.Signs[:2]), api.Sign{Node: 3})}), api.ErrSigns)
}

// P19.1: Good

func TestGood(t *testing.T) {
	e := epoch3(t)
	for _, c := range []api.Change{
		to(1), to(2), to(api.MaxNum),
		to(1, held(0, 10, asks(1))), to(1, held(0, 14, asks(1))),
		to(1, held(0, 10, asks(1)), held(0, 14, asks(2))),
		to(9, held(8, 10, batch.None()), held(3, 14, api.Batch{})),
		to(9, held(0, 10, asks(1)), held(8, 14, asks(1))),
		to(api.MaxNum, held(api.MaxNum-1, 10, asks(1))),
	} {
		is(t, "a change", Good(keys, e, c), api.OK)
	}
	for leader := range 4 {
		c := api.Change{Epoch: 3, Leader: leader, View: 1, Held: []api.Held{held(0, 9+leader, asks(1)), held(0, 13+leader, asks(2))}}
		is(t, "any leader", Good(keys, e, c), api.OK)
	}
	// The first slot that there may be.
	e.Start = 1
	is(t, "slot 1", Good(keys, e, api.Change{Epoch: 3, Leader: 0, View: 1, Held: []api.Held{held(0, 1, asks(1))}}), api.OK)
}

func TestGoodRefuses(t *testing.T) {
	e := epoch3(t)
	e.Leaders = []int{0, 1, 3} // slots 9 to 14; leader 1's are 10 and 13
	good := to(2, held(1, 10, asks(1)), held(0, 13, asks(2)))
	is(t, "as it is", Good(keys, e, good), api.OK)
	commits := api.Held{Batch: asks(1), Cert: cert(vote(api.Commit, 1, 10, asks(1)), 0, 1, 2)}
	few := held(1, 10, asks(1))
	few.Cert.Signs = few.Cert.Signs[1:]
	for _, x := range []struct {
		name string
		do   func(c *api.Change)
		want api.Errno
	}{
		{"the epoch ahead", func(c *api.Change) { c.Epoch = 2 }, api.ErrChange},
		{"the next epoch", func(c *api.Change) { c.Epoch = 4 }, api.ErrChange},
		{"the least epoch", func(c *api.Change) { c.Epoch = math.MinInt }, api.ErrChange},
		{"a node that does not lead", func(c *api.Change) { c.Leader = 2 }, api.ErrChange},
		{"another leader", func(c *api.Change) { c.Leader = 3 }, api.ErrChange},
		{"no node", func(c *api.Change) { c.Leader = 4 }, api.ErrChange},
		{"leader -1", func(c *api.Change) { c.Leader = -1 }, api.ErrChange},
		{"leader -1, nothing held", func(c *api.Change) { c.Leader, c.Held = -1, nil }, api.ErrChange},
		{"view 0, nothing held", func(c *api.Change) { c.View, c.Held = 0, nil }, api.ErrChange},
		{"view -1, nothing held", func(c *api.Change) { c.View, c.Held = -1, nil }, api.ErrChange},
		{"the view beyond, nothing held", func(c *api.Change) { c.View, c.Held = api.MaxNum+1, nil }, api.ErrChange},
		{"the greatest view, nothing held", func(c *api.Change) { c.View, c.Held = math.MaxInt, nil }, api.ErrChange},
		{"held of the view", func(c *api.Change) { c.View = 1 }, api.ErrChange},
		{"the second one held of the view", func(c *api.Change) { c.Held[1] = held(2, 13, asks(2)) }, api.ErrChange},
		{"held of a later view", func(c *api.Change) { c.Held[0] = held(3, 10, asks(1)) }, api.ErrChange},
		{"falling slots", func(c *api.Change) { c.Held[0], c.Held[1] = c.Held[1], c.Held[0] }, api.ErrChange},
		{"a slot twice", func(c *api.Change) { c.Held[1] = held(0, 10, asks(1)) }, api.ErrChange},
		{"another leader's slot", func(c *api.Change) { c.Held[1] = held(0, 14, asks(2)) }, api.ErrChange},
		{"another leader's slot ahead", func(c *api.Change) { c.Held[0] = held(0, 9, asks(2)) }, api.ErrChange},
		{"a slot of none", func(c *api.Change) { c.Held[1] = held(0, 15, asks(2)) }, api.ErrChange},
		{"Commits", func(c *api.Change) { c.Held[0] = commits }, api.ErrChange},
		{"another batch", func(c *api.Change) { c.Held[1].Batch = asks(3) }, api.ErrChange},
		{"few signs", func(c *api.Change) { c.Held[0] = few }, api.ErrSigns},
		{"few signs of the second one", func(c *api.Change) { c.Held[1].Cert.Signs = nil }, api.ErrSigns},
		{"few signs, and another leader's slot", func(c *api.Change) { c.Held[1] = held(0, 14, asks(2)); c.Held[1].Cert.Signs = nil }, api.ErrSigns},
		{"few signs, then falling slots", func(c *api.Change) { c.Held[0].Cert.Signs = nil; c.Held[1] = held(0, 9, asks(2)) }, api.ErrSigns},
		{"held of the view, then few signs", func(c *api.Change) { c.View = 1; c.Held[1].Cert.Signs = nil }, api.ErrChange},
		{"view 0, few signs", func(c *api.Change) { c.View = 0; c.Held[0].Cert.Signs = nil }, api.ErrChange},
	} {
		is(t, x.name, Good(keys, e, with(good, x.do)), x.want)
	}
	is(t, "as it was", Good(keys, e, good), api.OK)
}

func TestGoodInOrder(t *testing.T) {
	e := epoch3(t)
	for i, bad := range badEpochs(t) {
		for _, k := range []*seal.Keys{keys, nil, {}} {
			if err := Good(k, bad, api.Change{}); err != api.ErrEpoch {
				t.Errorf("epoch %d: %d", i, int(err))
			}
		}
	}
	for _, k := range []*seal.Keys{nil, {}} {
		is(t, "no keys, view 0", Good(k, e, to(0, held(0, 10, asks(1)))), api.ErrChange)
		is(t, "no keys", Good(k, e, to(1, held(0, 10, asks(1)))), api.ErrNil)
		// Nothing is held, so no key is asked for.
		is(t, "no keys, nothing held", Good(k, e, to(1)), api.OK)
	}
}

// P19.1: Body

func TestBody(t *testing.T) {
	for _, c := range []api.Change{{}, to(1), to(9, held(8, 10, asks(1)), held(3, 14, batch.None())), {Epoch: api.MaxEpoch, Leader: api.MaxNodes, View: api.MaxNum}} {
		m, err := message.Decode(Body(c))
		if err != api.OK || !message.Same(m, api.Msg{Kind: api.MsgChange, Change: c}) {
			t.Errorf("%v is told as %v %d", c, m, int(err))
		}
	}
	if got := Body(to(1)); got != "\x01\x03\x01\x03\x01\x01\x01\x01\x00" {
		t.Errorf("%x", got)
	}
	long := api.Change{Held: make([]api.Held, api.MaxSlots+1)}
	for i := range long.Held {
		long.Held[i] = held(0, 10, asks(1))
	}
	for _, c := range []api.Change{
		{View: -1}, {View: api.MaxNum + 1}, {Epoch: -1}, {Epoch: api.MaxEpoch + 1}, {Leader: -1}, {Leader: api.MaxNodes + 1}, {View: math.MaxInt},
		long, to(1, api.Held{}), to(1, held(-1, 10, asks(1))), to(1, held(0, 10, asks(-1))),
	} {
		if got := Body(c); got != "" {
			t.Errorf("of %v: %x", c, got)
		}
	}
}

// P19.2

func TestRead(t *testing.T) {
	e := epoch3(t)
	a, b, none := to(2, held(0, 10, asks(1))), to(2, held(1, 10, asks(2)), held(0, 14, asks(3))), to(2)
	list := []api.Change{a, none, b, none}
	for _, nodes := range [][]int{{0, 1, 2}, {0, 1, 3}, {0, 2, 3}, {1, 2, 3}, {0, 1, 2, 3}} {
		var news []api.Envelope
		for _, n := range nodes {
			news = append(news, sealed(t, n, Body(list[n])))
		}
		got, err := Read(keys, e, 1, 2, news)
		if err != api.OK || len(got) != len(nodes) {
			t.Fatalf("of %v: %v %d", nodes, got, int(err))
		}
		for i, n := range nodes {
			if !sameChange(got[i], list[n]) {
				t.Errorf("of %v, %d: %v", nodes, n, got[i])
			}
		}
	}
}

func TestReadRefuses(t *testing.T) {
	e := epoch3(t)
	c := to(2, held(1, 10, asks(1)))
	news := sent(t, c, 0, 1, 3)
	replace := func(i int, x api.Envelope) []api.Envelope {
		out := slices.Clone(news)
		out[i] = x
		return out
	}
	change := func(c api.Change) []api.Envelope { return replace(1, sealed(t, 1, Body(c))) }
	forged := news[1]
	forged.Tag[3]++
	stolen := news[1]
	stolen.From = 2
	status, _ := message.Encode(api.Msg{Kind: api.MsgStatus, Epoch: 3, Slot: 9})
	within, _ := message.Encode(api.Msg{Kind: api.MsgNew, Epoch: 3, Leader: 1, View: 2})
	few := held(1, 10, asks(1))
	few.Cert.Signs = few.Cert.Signs[:2]
	for _, x := range []struct {
		name string
		news []api.Envelope
		want api.Errno
	}{
		{"none", nil, api.ErrChange},
		{"one", news[:1], api.ErrChange},
		{"two", news[:2], api.ErrChange},
		{"one twice", sent(t, c, 0, 1, 1), api.ErrChange},
		{"the first one twice", sent(t, c, 0, 0, 1, 2), api.ErrChange},
		{"falling", sent(t, c, 0, 3, 1), api.ErrChange},
		{"one behind all", sent(t, c, 0, 1, 2, 3, 0), api.ErrChange},
		{"a client", sent(t, c, 0, 1, 4), api.ErrSender},
		{"a forged one", replace(1, forged), api.ErrSender},
		{"another one's", replace(1, stolen), api.ErrSender},
		{"the zero envelope", replace(1, api.Envelope{}), api.ErrSender},
		{"a node below 0", replace(0, api.Envelope{From: -1}), api.ErrSender},
		{"no message", replace(1, sealed(t, 1, "")), api.ErrCut},
		{"more bytes", replace(1, sealed(t, 1, Body(c)+"\x00")), api.ErrMore},
		{"no kind", replace(1, sealed(t, 1, "\x00")), api.ErrMessage},
		{"a status", replace(1, sealed(t, 1, status)), api.ErrChange},
		{"news", replace(1, sealed(t, 1, within)), api.ErrChange},
		{"another leader", change(api.Change{Epoch: 3, Leader: 2, View: 2}), api.ErrChange},
		{"the view below", change(to(1)), api.ErrChange},
		{"the next view", change(to(3)), api.ErrChange},
		{"another epoch", change(api.Change{Epoch: 2, Leader: 1, View: 2}), api.ErrChange},
		{"held of that view", change(to(2, held(2, 10, asks(1)))), api.ErrChange},
		{"few signs", change(to(2, few)), api.ErrSigns},
		{"few signs, too few", change(to(2, few))[:2], api.ErrSigns},
		{"few signs of a node twice", append(sent(t, c, 0, 1), sealed(t, 1, Body(to(2, few)))), api.ErrChange},
		{"few signs, then a forged one", append(change(to(2, few))[:2], forged), api.ErrSigns},
		{"a forged one, then few signs", append(replace(0, api.Envelope{From: 9})[:1], change(to(2, few))[1:]...), api.ErrSender},
	} {
		got, err := Read(keys, e, 1, 2, x.news)
		if err != x.want || len(got) != 0 {
			t.Errorf("%s: %v %d, want %d", x.name, got, int(err), int(x.want))
		}
	}
	if got, err := Read(keys, e, 1, 2, news); err != api.OK || len(got) != 3 {
		t.Errorf("as they are: %v %d", got, int(err))
	}
	for _, x := range []struct{ leader, view int }{{2, 2}, {-1, 2}, {1, 1}, {1, 3}, {1, 0}, {1, math.MinInt}, {math.MaxInt, math.MaxInt}} {
		if got, err := Read(keys, e, x.leader, x.view, news); err != api.ErrChange || len(got) != 0 {
			t.Errorf("leader %d, view %d: %v %d", x.leader, x.view, got, int(err))
		}
	}
}

func TestReadInOrder(t *testing.T) {
	e := epoch3(t)
	news := sent(t, to(2), 0, 1, 3)
	for i, bad := range badEpochs(t) {
		for _, k := range []*seal.Keys{keys, nil, {}} {
			if got, err := Read(k, bad, 1, 2, news); err != api.ErrEpoch || len(got) != 0 {
				t.Errorf("epoch %d: %v %d", i, got, int(err))
			}
		}
	}
	for _, k := range []*seal.Keys{nil, {}} {
		if got, err := Read(k, e, 1, 2, news); err != api.ErrNil || len(got) != 0 {
			t.Errorf("no keys: %v %d", got, int(err))
		}
		if got, err := Read(k, e, 1, 2, nil); err != api.ErrChange || len(got) != 0 {
			t.Errorf("no keys, no news: %v %d", got, int(err))
		}
	}
	// A view that may not be is Good's to refuse: the same view is asked for.
	if got, err := Read(keys, e, 1, 0, sent(t, to(0), 0, 1, 3)); err != api.ErrChange || len(got) != 0 {
		t.Errorf("view 0: %v %d", got, int(err))
	}
}

// P19.3

// chosenIs tests what Choose tells of leader 1's two slots.
func chosenIs(t *testing.T, name string, e epoch.Epoch, l []api.Change, want ...api.Batch) {
	t.Helper()
	if got := Choose(e, 1, l); !slices.EqualFunc(got, want, batch.Same) {
		t.Errorf("%s: %v, want %v", name, got, want)
	}
}

// The chapter's example.

func TestExample(t *testing.T) {
	e := epoch3(t)
	chosenIs(t, "of no changes", e, nil, batch.None(), batch.None())
	for slots := 1; slots <= api.MaxSlots; slots++ {
		e.Config.Slots = slots
		if got := Choose(e, 1, []api.Change{}); len(got) != slots || !batch.Same(got[slots-1], batch.None()) {
			t.Errorf("of %d slots: %v", slots, got)
		}
	}
}

func TestChoose(t *testing.T) {
	e := epoch3(t)
	none := batch.None()
	chosenIs(t, "nothing held", e, []api.Change{to(9), to(9)}, none, none)
	chosenIs(t, "the first slot", e, []api.Change{to(9), to(9, held(0, 10, asks(1)))}, asks(1), none)
	chosenIs(t, "the second slot", e, []api.Change{to(9, held(0, 14, asks(1)))}, none, asks(1))
	chosenIs(t, "the greatest view, first", e, []api.Change{to(9, held(5, 10, asks(1))), to(9, held(4, 10, asks(2)))}, asks(1), none)
	chosenIs(t, "the greatest view, last", e, []api.Change{to(9, held(4, 10, asks(1))), to(9), to(9, held(5, 10, asks(2)))}, asks(2), none)
	chosenIs(t, "each slot its own", e, []api.Change{to(9, held(4, 10, asks(1)), held(5, 14, asks(2))), to(9, held(5, 10, asks(3)), held(4, 14, asks(4)))}, asks(3), asks(2))
	chosenIs(t, "the first one of several", e, []api.Change{to(9, held(1, 10, asks(1))), to(9, held(5, 10, asks(2))), to(9, held(5, 10, asks(3)))}, asks(2), none)
	chosenIs(t, "the first one of several in a change", e, []api.Change{to(9, held(5, 10, asks(2)), held(5, 10, asks(3)), held(6, 11, asks(4)))}, asks(2), none)
	chosenIs(t, "nothing, of a later view", e, []api.Change{to(9, held(4, 10, asks(1))), to(9, held(5, 10, none))}, none, none)
	chosenIs(t, "no requests", e, []api.Change{to(9, held(4, 10, api.Batch{}))}, api.Batch{}, none)
	chosenIs(t, "other slots", e, []api.Change{to(9, held(4, 9, asks(1)), held(4, 11, asks(1)), held(4, 18, asks(1)))}, none, none)
	// Views are whole numbers, and whatever is held is asked for its slot alone.
	odd := func(view, num int) api.Held {
		return api.Held{Batch: asks(num), Cert: api.Cert{Vote: api.Vote{View: view, Slot: 10}}}
	}
	chosenIs(t, "below 0", e, []api.Change{{Held: []api.Held{odd(math.MinInt, 1)}}}, asks(1), none)
	chosenIs(t, "below 0, two", e, []api.Change{{Held: []api.Held{odd(-2, 1), odd(-1, 2), odd(-3, 3)}}}, asks(2), none)
	chosenIs(t, "the greatest", e, []api.Change{{Held: []api.Held{odd(math.MinInt, 1), odd(math.MaxInt, 2), odd(0, 3)}}}, asks(2), none)
}

func TestChooseOfNone(t *testing.T) {
	l := []api.Change{to(9, held(4, 10, asks(1)))}
	for i, bad := range badEpochs(t) {
		if got := Choose(bad, 1, l); len(got) != 0 {
			t.Errorf("epoch %d: %v", i, got)
		}
	}
	e := epoch3(t)
	e.Leaders = []int{0, 1, 3}
	for _, leader := range []int{2, 4, -1, math.MinInt, math.MaxInt} {
		if got := Choose(e, leader, l); len(got) != 0 {
			t.Errorf("leader %d: %v", leader, got)
		}
	}
	if got := Choose(e, 3, []api.Change{{Held: []api.Held{held(0, 11, asks(1))}}}); len(got) != 2 || !batch.Same(got[0], asks(1)) {
		t.Errorf("another leader's: %v", got)
	}
}

// P19.4

func TestSafe(t *testing.T) {
	state := uint32(7)
	below := func(n int) int {
		state = state*1664525 + 1013904223
		return int(state>>16) % n
	}
	order := func(n int) []int {
		out := make([]int, n)
		for i := range out {
			j := below(i + 1)
			out[i], out[j] = out[j], i
		}
		return out
	}
	// Certs are not looked at by Choose: views and batches alone matter here.
	plain := func(view int, b api.Batch) []api.Held {
		return []api.Held{{Batch: b, Cert: api.Cert{Vote: api.Vote{View: view, Slot: 10}}}}
	}
	for _, n := range []int{4, 7, 10} {
		e := epoch3(t)
		e.Config.Nodes = n
		e.Leaders = order(n)
		slices.Sort(e.Leaders)
		e.Start = 9
		for range 300 {
			view := 1 + below(4)
			likes := func() []api.Held {
				if below(3) == 0 {
					return nil
				}
				return plain(below(view), asks(2+below(3)))
			}
			// Most nodes held it in that view; some of them hold it of a later one by now, the others hold what they like of one below.
			changes := make([]api.Change, n)
			for i, node := range order(n) {
				changes[node] = api.Change{Epoch: 3, Leader: 1, View: 20, Held: likes()}
				if i < quorum.Most(n) {
					changes[node].Held = plain(view+below(2)*below(5), asks(1))
				}
			}
			for _, node := range order(n)[:quorum.Faults(n)] {
				changes[node].Held = likes()
			}
			var some []api.Change
			for _, node := range order(n)[:quorum.Most(n)] {
				some = append(some, changes[node])
			}
			if got := Choose(e, 1, some); len(got) != 2 || !batch.Same(got[0], asks(1)) {
				t.Fatalf("%d nodes, view %d: %v of %v", n, view, got, some)
			}
		}
	}
}

// P19.5

func TestReadBack(t *testing.T) {
	e := epoch3(t)
	for _, c := range []api.Change{
		to(1), to(api.MaxNum), to(7, held(0, 10, asks(1))), to(7, held(6, 14, batch.None())), to(7, held(6, 10, api.Batch{}), held(0, 14, asks(2))),
		to(api.MaxNum, held(api.MaxNum-1, 10, api.Batch{Requests: []api.Request{{Client: 1, Num: 1}, {Client: 0, Num: api.MaxNum, Data: "x"}}})),
	} {
		is(t, "a change", Good(keys, e, c), api.OK)
		got, err := Read(keys, e, 1, c.View, sent(t, c, 1, 2, 3))
		if err != api.OK || len(got) != 3 {
			t.Fatalf("%v: %d", c, int(err))
		}
		for _, x := range got {
			if !sameChange(x, c) {
				t.Errorf("%v is read as %v", c, x)
			}
		}
	}
}

// Rules 4 and 8: what is handed in stays as it is, and what lies behind a list's length is not looked at.

func TestWhatIsHandedInStays(t *testing.T) {
	e := epoch3(t)
	room := []api.Held{held(0, 10, asks(1)), held(0, 14, asks(2)), {Batch: asks(9)}}
	c := to(1, room[:2]...)
	envelopes := append(sent(t, c, 0, 1, 3), api.Envelope{From: -9, Body: "x"})
	was, heldWas := slices.Clone(envelopes), Body(c)
	for range 2 {
		is(t, "Good", Good(keys, e, c), api.OK)
		if _, err := Read(keys, e, 1, 1, envelopes[:3]); err != api.OK {
			t.Error(int(err))
		}
		chosenIs(t, "Choose", e, []api.Change{c}, asks(1), asks(2))
	}
	if !slices.Equal(envelopes, was) || Body(c) != heldWas || !batch.Same(room[2].Batch, asks(9)) {
		t.Error("what was handed in changed")
	}
}
