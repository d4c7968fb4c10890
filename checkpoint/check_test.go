package checkpoint

import (
	"math"
	"slices"
	"strings"
	"testing"

	"raddle/api"
	"raddle/message"
	"raddle/seal"
	"raddle/state"
)

// config is one that may be, of four nodes and two clients.
func config() api.Config {
	return api.Config{Nodes: 4, Clients: 2, Window: 4, Buckets: 4, Cap: 2, Slots: 1, Requests: 2, Timeout: 12, Penalty: 2, Last: 9}
}

// second is one of that config at its second epoch.
func second() api.State {
	return api.State{
		Epoch: 2, Next: 5, Count: 7, Chain: api.Digest{1, 31: 9},
		Clients: []api.Window{{Base: 7, Bits: 6}, {Base: 8}},
		Penal:   []int{0, 2, 4, 1},
	}
}

// keysOf are the keys of a config's nodes and clients.
func keysOf(c api.Config) *seal.Keys {
	return seal.Derive("checkpoint", c.Nodes+c.Clients)
}

// signedBy are nodes' signs under a body.
func signedBy(t *testing.T, k *seal.Keys, body string, nodes ...int) []api.Sign {
	t.Helper()
	var l []api.Sign
	for _, n := range nodes {
		tag, err := k.Sign(n, body)
		if err != api.OK {
			t.Fatalf("Sign(%d): %d", n, int(err))
		}
		l = append(l, api.Sign{Node: n, Tag: tag})
	}
	return l
}

// marked are nodes' signs under the mark of a state.
func marked(t *testing.T, k *seal.Keys, s api.State, nodes ...int) []api.Sign {
	t.Helper()
	return signedBy(t, k, message.Mark(s.Epoch-1, state.Digest(s)), nodes...)
}

// taken tests that Check takes a state.
func taken(t *testing.T, k *seal.Keys, c api.Config, s api.State, l []api.Sign) {
	t.Helper()
	if got, err := Check(k, c, state.Bytes(s), l); err != api.OK || !state.Same(got, s) {
		t.Errorf("%d, %+v, want %+v", int(err), got, s)
	}
}

// refused tests that Check refuses a text, and tells nothing beside.
func refused(t *testing.T, name string, k *seal.Keys, c api.Config, text string, l []api.Sign, want api.Errno) {
	t.Helper()
	got, err := Check(k, c, text, l)
	if err != want {
		t.Errorf("%s: %d, want %d", name, int(err), int(want))
	}
	if !state.Same(got, api.State{}) {
		t.Errorf("%s: %+v beside an error", name, got)
	}
}

// P23.3

func TestCheckTakesAState(t *testing.T) {
	c, s := config(), second()
	k := keysOf(c)
	for _, nodes := range [][]int{{0, 1, 2}, {0, 1, 3}, {0, 2, 3}, {1, 2, 3}, {0, 1, 2, 3}} {
		taken(t, k, c, s, marked(t, k, s, nodes...))
	}
	// Up to the state behind the last epoch.
	for epoch := 2; epoch <= c.Last+1; epoch++ {
		s.Epoch = epoch
		taken(t, k, c, s, marked(t, k, s, 1, 2, 3))
	}
	c.Last = api.MaxEpoch
	s.Epoch = api.MaxEpoch + 1
	taken(t, k, c, s, marked(t, k, s, 0, 1, 2))
}

func TestCheckTakesWhatMostSigned(t *testing.T) {
	for nodes := 4; nodes <= api.MaxNodes; nodes += 3 {
		c := config()
		c.Nodes, c.Buckets = nodes, nodes
		k := keysOf(c)
		s := state.First(c)
		s.Epoch = 2
		most := (nodes-1)/3*2 + 1
		all := marked(t, k, s, upTo(nodes)...)
		for _, l := range [][]api.Sign{all, all[:most], all[nodes-most:], all[1 : most+1]} {
			taken(t, k, c, s, l)
		}
		refused(t, "one too few", k, c, state.Bytes(s), all[:most-1], api.ErrSigns)
		refused(t, "the last ones, one too few", k, c, state.Bytes(s), all[nodes-most+1:], api.ErrSigns)
	}
}

func TestCheckOfWrongSigns(t *testing.T) {
	c, s := config(), second()
	k := keysOf(c)
	text := state.Bytes(s)
	right := marked(t, k, s, 0, 1, 2)
	with := func(do func(l []api.Sign) []api.Sign) []api.Sign { return do(slices.Clone(right)) }
	other := second()
	other.Count++
	for name, l := range map[string][]api.Sign{
		"none":            nil,
		"two":             right[:2],
		"turned about":    with(func(l []api.Sign) []api.Sign { slices.Reverse(l); return l }),
		"one twice":       with(func(l []api.Sign) []api.Sign { l[2] = l[1]; return l }),
		"more than nodes": with(func(l []api.Sign) []api.Sign { return append(l, l[2], l[2]) }),
		"a client's":      with(func(l []api.Sign) []api.Sign { l[2] = marked(t, k, s, 4)[0]; return l }),
		"below 0":         with(func(l []api.Sign) []api.Sign { l[0].Node = -1; return l }),
		"another's":       with(func(l []api.Sign) []api.Sign { l[2].Node = 3; return l }),
		"a wrong fourth":  with(func(l []api.Sign) []api.Sign { return append(l, api.Sign{Node: 3}) }),
		"of its epoch":    signedBy(t, k, message.Mark(2, state.Digest(s)), 0, 1, 2),
		"of epoch 0":      signedBy(t, k, message.Mark(0, state.Digest(s)), 0, 1, 2),
		"of the bytes":    signedBy(t, k, text, 0, 1, 2),
		"another state's": marked(t, k, other, 0, 1, 2),
		"of other keys":   marked(t, seal.Derive("other", 6), s, 0, 1, 2),
	} {
		refused(t, name, k, c, text, l, api.ErrSigns)
	}
	for i := range right {
		for j := range right[i].Tag {
			l := slices.Clone(right)
			l[i].Tag[j] ^= 1
			refused(t, "a tag's byte", k, c, text, l, api.ErrSigns)
		}
	}
	// There may be fewer keys than nodes.
	few := seal.Derive("checkpoint", 2)
	refused(t, "few keys", few, c, text, right, api.ErrSigns)
}

func TestCheckOfTheFirstEpoch(t *testing.T) {
	c := config()
	k := keysOf(c)
	s := state.First(c)
	l := signedBy(t, k, message.Mark(0, state.Digest(s)), 0, 1, 2)
	refused(t, "first", k, c, state.Bytes(s), l, api.ErrMark)
	refused(t, "first, without signs", k, c, state.Bytes(s), nil, api.ErrMark)
}

func TestCheckOfWrongStates(t *testing.T) {
	c, s := config(), second()
	k := keysOf(c)
	text := state.Bytes(s)
	l := marked(t, k, s, 0, 1, 2)
	for n := range text {
		refused(t, "cut", k, c, text[:n], l, api.ErrCut)
	}
	refused(t, "more", k, c, text+"\x00", l, api.ErrMore)
	refused(t, "a wrong number", k, c, "\x09"+text[1:], l, api.ErrForm)
	refused(t, "an epoch that is too great", k, c, "\x08\x7f\xff\xff\xff\xff\xff\xff\xff"+text[2:], l, api.ErrLong)
	refused(t, "epoch 0", k, c, "\x00"+text[2:], l, api.ErrState)
	refused(t, "beyond the last epoch", k, c, "\x01\x0b"+text[2:], l, api.ErrState)
	// A state goes ahead of its signs, and of the first epoch.
	for _, do := range []func(c *api.Config){
		func(c *api.Config) { c.Nodes = 5 }, func(c *api.Config) { c.Nodes = 7 }, func(c *api.Config) { c.Nodes = math.MinInt },
		func(c *api.Config) { c.Nodes = math.MaxInt }, func(c *api.Config) { c.Clients = 1 }, func(c *api.Config) { c.Last = 0 },
		func(c *api.Config) { c.Timeout = 11 }, func(c *api.Config) { *c = api.Config{} },
	} {
		o := c
		do(&o)
		refused(t, "another config", k, o, text, l, api.ErrState)
		refused(t, "another config, no signs", k, o, text, nil, api.ErrState)
		refused(t, "another config, the first epoch", k, o, state.Bytes(state.First(c)), l, api.ErrState)
	}
	refused(t, "nothing", k, c, "", nil, api.ErrCut)
	refused(t, "much", k, c, strings.Repeat("\xff", 1<<20), nil, api.ErrForm)
}

// P23.5: of each byte of the state another one is refused.
func TestCheckOfAnotherByte(t *testing.T) {
	c, s := config(), second()
	k := keysOf(c)
	l := marked(t, k, s, 0, 1, 3)
	text := state.Bytes(s)
	for i := range text {
		for bit := range 8 {
			b := []byte(text)
			b[i] ^= 1 << bit
			if got, err := Check(k, c, string(b), l); err == api.OK || !state.Same(got, api.State{}) {
				t.Errorf("byte %d, bit %d: %+v", i, bit, got)
			}
		}
	}
}

// P23.5: the signs that marks tell are such that their state is taken.
func TestCheckOfGatheredSigns(t *testing.T) {
	c, s := config(), second()
	k := keysOf(c)
	d := state.Digest(s)
	m := marks(t, c.Nodes)
	for _, x := range marked(t, k, s, 3, 0, 2) {
		if err := m.Add(x.Node, s.Epoch-1, d, x.Tag); err != api.OK {
			t.Fatal(int(err))
		}
	}
	taken(t, k, c, s, m.Signs(1, d, 3))
}

// Rules 4 and 8: what is handed in stays as it is, and what is told is apart from it.
func TestCheckLeavesWhatItIsGiven(t *testing.T) {
	c, s := config(), second()
	k := keysOf(c)
	l := marked(t, k, s, 0, 1, 2, 3)
	was := slices.Clone(l)
	got, err := Check(k, c, state.Bytes(s), l[:3])
	if err != api.OK || !slices.Equal(l, was) {
		t.Fatal(int(err), l)
	}
	got.Clients[0], got.Penal[0] = api.Window{}, 9
	taken(t, k, c, s, l[:3])
	// What lies behind the list's length is not read.
	refused(t, "two of four", k, c, state.Bytes(s), l[:2], api.ErrSigns)
	clear(l[3:])
	taken(t, k, c, s, l[:3])
}

// Rule 1

func TestCheckWithoutKeys(t *testing.T) {
	c, s := config(), second()
	l := marked(t, keysOf(c), s, 0, 1, 2)
	for _, k := range []*seal.Keys{nil, {}} {
		// Keys go ahead of all else.
		refused(t, "no keys", k, c, state.Bytes(s), l, api.ErrNil)
		refused(t, "no keys, no state", k, c, "", nil, api.ErrNil)
		refused(t, "no keys, no config", k, api.Config{}, state.Bytes(s), l, api.ErrNil)
		refused(t, "no keys, the first epoch", k, c, state.Bytes(state.First(c)), l, api.ErrNil)
	}
}
