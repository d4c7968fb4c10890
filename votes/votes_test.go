package votes

import (
	"math"
	"slices"
	"testing"

	"raddle/api"
	"raddle/quorum"
)

// book makes a book that must come about.
func book(t *testing.T, nodes int) *Book {
	t.Helper()
	b := New(nodes)
	if b == nil {
		t.Fatalf("New(%d): nil", nodes)
	}
	return b
}

// vote is a Prepare vote of epoch 1, slot 3; the mark tells digests apart.
func vote(view int, mark byte) api.Vote {
	return api.Vote{Kind: api.Prepare, Epoch: 1, View: view, Slot: 3, Digest: api.Digest{mark}}
}

func commit(v api.Vote) api.Vote {
	v.Kind = api.Commit
	return v
}

// tagOf is a tag of its own for each node and vote, so that one that is mixed up is seen.
func tagOf(node int, v api.Vote) api.Tag {
	return api.Tag{byte(node), byte(v.Kind), byte(v.View), v.Digest[0], byte(v.Epoch), byte(v.Slot)}
}

// add puts a vote of some nodes in, which must not be refused.
func add(t *testing.T, b *Book, v api.Vote, nodes ...int) {
	t.Helper()
	for _, n := range nodes {
		if err := b.Add(n, v, tagOf(n, v)); err != api.OK {
			t.Fatalf("Add(%d, %v): %d", n, v, int(err))
		}
	}
}

// certOf is the cert that those nodes' signs make.
func certOf(v api.Vote, nodes ...int) api.Cert {
	c := api.Cert{Vote: v}
	for _, n := range nodes {
		c.Signs = append(c.Signs, api.Sign{Node: n, Tag: tagOf(n, v)})
	}
	return c
}

func sameCert(a, b api.Cert) bool {
	return a.Vote == b.Vote && slices.Equal(a.Signs, b.Signs)
}

// isCert tests an answer of Cert or Best that must be one.
func isCert(t *testing.T, name string, c api.Cert, ok bool, want api.Cert) {
	t.Helper()
	if !ok || !sameCert(c, want) {
		t.Errorf("%s: %v %v, want %v", name, c, ok, want)
	}
}

// noCert tests an answer of Cert or Best that must be none.
func noCert(t *testing.T, name string, c api.Cert, ok bool) {
	t.Helper()
	if ok || c.Vote != (api.Vote{}) || len(c.Signs) != 0 {
		t.Errorf("%s: %v %v, want none", name, c, ok)
	}
}

// told is what Of tells.
type told struct {
	vote  api.Vote
	tag   api.Tag
	there bool
}

// look is all that a book tells of its nodes' votes.
func look(b *Book) []told {
	var out []told
	for kind := -1; kind <= 4; kind++ {
		for node := -1; node <= api.MaxNodes; node++ {
			v, tag, there := b.Of(kind, node)
			out = append(out, told{v, tag, there})
		}
	}
	return out
}

// wrong are numbers at the ends of an int's range, and those about zero.
func wrong() []int {
	return []int{math.MinInt, math.MinInt + 1, -2, -1, math.MaxInt - 1, math.MaxInt}
}

// The chapter's example.

func TestExample(t *testing.T) {
	b := book(t, 4)
	v := vote(0, 1)
	add(t, b, v, 2, 0, 3)
	c, ok := b.Cert(v, 3)
	isCert(t, "Cert", c, ok, certOf(v, 0, 2, 3))
}

// P17.1

func TestNew(t *testing.T) {
	for n := -10; n <= 80; n++ {
		good := n >= 4 && n <= 64 && n%3 == 1
		b := New(n)
		if (b != nil) != good {
			t.Errorf("New(%d): %v", n, b != nil)
		}
		for _, x := range look(b) {
			if x != (told{}) {
				t.Errorf("New(%d) has a vote: %v", n, x)
			}
		}
	}
	for _, n := range wrong() {
		if New(n) != nil {
			t.Errorf("New(%d) is one", n)
		}
	}
}

func TestAddTakesEachNodeAndKind(t *testing.T) {
	for _, nodes := range []int{4, 7, 64} {
		b := book(t, nodes)
		for node := range nodes {
			v := vote(node, byte(node))
			add(t, b, v, node)
			add(t, b, commit(vote(node+1, 9)), node)
			if got, tag, ok := b.Of(api.Prepare, node); !ok || got != v || tag != tagOf(node, v) {
				t.Errorf("of %d, node %d: %v %v %v", nodes, node, got, tag, ok)
			}
		}
		before := look(b)
		for _, node := range append(wrong(), nodes, nodes+1) {
			for _, v := range []api.Vote{vote(0, 1), commit(vote(0, 1)), {}} {
				if err := b.Add(node, v, api.Tag{1}); err != api.ErrArg {
					t.Errorf("of %d, node %d: %d, want ErrArg", nodes, node, int(err))
				}
			}
		}
		if !slices.Equal(look(b), before) {
			t.Errorf("of %d: something changed behind an error", nodes)
		}
	}
}

func TestAddKinds(t *testing.T) {
	for _, kind := range append(wrong(), 0, 3, 4) {
		b := book(t, 4)
		v := vote(0, 1)
		v.Kind = kind
		if err := b.Add(0, v, api.Tag{1}); err != api.ErrArg {
			t.Errorf("kind %d: %d, want ErrArg", kind, int(err))
		}
		if _, _, ok := b.Of(kind, 0); ok || b.Count(v) != 0 {
			t.Errorf("kind %d is there", kind)
		}
	}
}

func TestAddAgain(t *testing.T) {
	for _, kind := range []int{api.Prepare, api.Commit} {
		was := vote(5, 7)
		was.Kind = kind
		with := func(change func(v *api.Vote)) api.Vote {
			v := was
			change(&v)
			return v
		}
		for _, x := range []struct {
			name string
			v    api.Vote
			want api.Errno
		}{
			{"another Digest", with(func(v *api.Vote) { v.Digest[31] = 1 }), api.ErrOther},
			{"another Epoch", with(func(v *api.Vote) { v.Epoch++ }), api.ErrOther},
			{"another Slot", with(func(v *api.Vote) { v.Slot-- }), api.ErrOther},
			{"the view below", with(func(v *api.Vote) { v.View-- }), api.ErrOld},
			{"the view below, all other", with(func(v *api.Vote) { v.View, v.Digest, v.Epoch, v.Slot = 4, api.Digest{1}, 2, 9 }), api.ErrOld},
			{"the least view", with(func(v *api.Vote) { v.View = math.MinInt }), api.ErrOld},
			{"the view above", with(func(v *api.Vote) { v.View++ }), api.OK},
			{"the view above, a lesser epoch", with(func(v *api.Vote) { v.View, v.Epoch, v.Slot = 6, 0, 0 }), api.OK},
			{"the greatest view", with(func(v *api.Vote) { v.View = math.MaxInt }), api.OK},
		} {
			b := book(t, 4)
			add(t, b, was, 1)
			before := look(b)
			if err := b.Add(1, x.v, api.Tag{99}); err != x.want {
				t.Errorf("%s: %d, want %d", x.name, int(err), int(x.want))
			}
			if x.want != api.OK {
				if !slices.Equal(look(b), before) {
					t.Errorf("%s: something changed behind an error", x.name)
				}
				continue
			}
			if got, tag, ok := b.Of(kind, 1); !ok || got != x.v || tag != (api.Tag{99}) || b.Count(was) != 0 || b.Count(x.v) != 1 {
				t.Errorf("%s: %v %v %v", x.name, got, tag, ok)
			}
		}
	}
}

func TestAddTheSameDoesNothing(t *testing.T) {
	b := book(t, 4)
	v := vote(5, 7)
	add(t, b, v, 1)
	before := look(b)
	for _, tag := range []api.Tag{tagOf(1, v), {}, {200}} {
		if err := b.Add(1, v, tag); err != api.OK {
			t.Errorf("the same vote: %d", int(err))
		}
		if !slices.Equal(look(b), before) || b.Count(v) != 1 {
			t.Errorf("the same vote with the tag %v changed something", tag)
		}
	}
}

func TestAddOddVotes(t *testing.T) {
	// Nothing but kind and node is looked at: numbers beyond all limits are taken.
	b := book(t, 4)
	for node, n := range []int{math.MinInt, -1, math.MaxInt} {
		add(t, b, api.Vote{Kind: api.Commit, Epoch: n, View: n, Slot: n}, node)
	}
	first := api.Vote{Kind: api.Commit, Epoch: math.MinInt, View: math.MinInt, Slot: math.MinInt}
	if err := b.Add(0, first, api.Tag{}); err != api.OK {
		t.Errorf("the same: %d", int(err))
	}
	later := api.Vote{Kind: api.Commit, View: math.MaxInt}
	if err := b.Add(0, later, api.Tag{}); err != api.OK {
		t.Errorf("from the least view to the greatest one: %d", int(err))
	}
	if err := b.Add(0, first, api.Tag{}); err != api.ErrOld {
		t.Errorf("and back: %d, want ErrOld", int(err))
	}
}

// P17.2

func TestOf(t *testing.T) {
	b := book(t, 4)
	v, w := vote(1, 1), commit(vote(0, 2))
	add(t, b, v, 0, 3)
	add(t, b, w, 3, 1)
	for _, x := range []struct {
		kind, node int
		want       told
	}{
		{api.Prepare, 0, told{v, tagOf(0, v), true}},
		{api.Prepare, 3, told{v, tagOf(3, v), true}},
		{api.Commit, 3, told{w, tagOf(3, w), true}},
		{api.Commit, 1, told{w, tagOf(1, w), true}},
		{api.Commit, 0, told{}},
		{api.Prepare, 1, told{}},
		{api.Prepare, 2, told{}},
		{api.Prepare, 4, told{}},
		{api.Prepare, -1, told{}},
		{0, 0, told{}},
		{3, 0, told{}},
		{-1, 3, told{}},
		{math.MinInt, math.MaxInt, told{}},
		{math.MaxInt, math.MinInt, told{}},
	} {
		got, tag, ok := b.Of(x.kind, x.node)
		if (told{got, tag, ok}) != x.want {
			t.Errorf("Of(%d, %d): %v %v %v, want %v", x.kind, x.node, got, tag, ok, x.want)
		}
	}
}

func TestCountJustThat(t *testing.T) {
	b := book(t, 7)
	v := vote(1, 1)
	add(t, b, v, 6, 0, 2)
	add(t, b, commit(v), 1)
	unlike := []api.Vote{}
	for _, change := range []func(x *api.Vote){
		func(x *api.Vote) { x.Epoch = 2 },
		func(x *api.Vote) { x.View = 0 },
		func(x *api.Vote) { x.View = 2 },
		func(x *api.Vote) { x.Slot = 4 },
		func(x *api.Vote) { x.Digest[0] = 2 },
		func(x *api.Vote) { x.Digest[31] = 1 },
		func(x *api.Vote) { x.Kind = 0 },
		func(x *api.Vote) { x.Kind = 3 },
		func(x *api.Vote) { *x = api.Vote{} },
		func(x *api.Vote) { *x = api.Vote{Kind: api.Prepare} },
		func(x *api.Vote) { *x = api.Vote{Kind: api.Commit} },
	} {
		x := v
		change(&x)
		unlike = append(unlike, x)
	}
	if b.Count(v) != 3 || b.Count(commit(v)) != 1 {
		t.Errorf("%d and %d, want 3 and 1", b.Count(v), b.Count(commit(v)))
	}
	for _, x := range unlike {
		if n := b.Count(x); n != 0 {
			t.Errorf("Count(%v): %d, want 0", x, n)
		}
		c, ok := b.Cert(x, 1)
		noCert(t, "Cert", c, ok)
	}
}

func TestCertTheFirstNodes(t *testing.T) {
	b := book(t, 7)
	v := vote(0, 1)
	add(t, b, vote(0, 2), 0, 4)
	add(t, b, v, 6, 1, 5, 3, 2)
	add(t, b, commit(v), 0, 1)
	has := []int{1, 2, 3, 5, 6}
	for need := 1; need <= len(has); need++ {
		c, ok := b.Cert(v, need)
		isCert(t, "Cert", c, ok, certOf(v, has[:need]...))
	}
	for _, need := range append(wrong(), 0, 6, 7, 8) {
		c, ok := b.Cert(v, need)
		noCert(t, "Cert", c, ok)
	}
	c, ok := b.Cert(commit(v), 2)
	isCert(t, "Commit", c, ok, certOf(commit(v), 0, 1))
}

func TestCertOfAllNodes(t *testing.T) {
	b := book(t, 64)
	v := vote(3, 1)
	var rising []int
	for i := range 64 {
		add(t, b, v, (i*27+11)%64)
		rising = append(rising, i)
	}
	c, ok := b.Cert(v, 64)
	isCert(t, "Cert of all", c, ok, certOf(v, rising...))
	c, ok = b.Best(api.Prepare, 64)
	isCert(t, "Best of all", c, ok, certOf(v, rising...))
	c, ok = b.Cert(v, 65)
	noCert(t, "of one more", c, ok)
}

func TestBest(t *testing.T) {
	high := func(change func(v *api.Vote)) api.Vote {
		v := api.Vote{Kind: api.Prepare, Epoch: 5, View: 2, Slot: 6, Digest: api.Digest{5, 5}}
		change(&v)
		return v
	}
	plain := high(func(*api.Vote) {})
	// Each is ahead of the one behind it.
	order := []api.Vote{
		high(func(v *api.Vote) { v.View, v.Digest, v.Epoch, v.Slot = math.MaxInt, api.Digest{255}, 9, 9 }),
		high(func(v *api.Vote) { v.View, v.Digest, v.Epoch, v.Slot = 3, api.Digest{255}, 9, 9 }),
		high(func(v *api.Vote) { v.Digest, v.Epoch, v.Slot = api.Digest{0, 255}, 9, 9 }),
		high(func(v *api.Vote) { v.Digest, v.Epoch, v.Slot = api.Digest{5, 4, 255}, 9, 9 }),
		high(func(v *api.Vote) { v.Epoch, v.Slot = -1, 9 }),
		high(func(v *api.Vote) { v.Epoch, v.Slot = 4, 9 }),
		high(func(v *api.Vote) { v.Slot = 5 }),
		plain,
		high(func(v *api.Vote) { v.Slot = 7 }),
		high(func(v *api.Vote) { v.Epoch, v.Slot = 6, 0 }),
		high(func(v *api.Vote) { v.Digest[31], v.Epoch, v.Slot = 1, 0, 0 }),
		high(func(v *api.Vote) { v.Digest, v.Epoch, v.Slot = api.Digest{128}, 0, 0 }),
		high(func(v *api.Vote) { v.View, v.Digest, v.Epoch, v.Slot = 1, api.Digest{}, 0, 0 }),
		high(func(v *api.Vote) { v.View, v.Digest, v.Epoch, v.Slot = -1, api.Digest{}, 0, 0 }),
		high(func(v *api.Vote) { v.View, v.Digest, v.Epoch, v.Slot = math.MinInt, api.Digest{}, 0, 0 }),
	}
	for i, v := range order {
		for _, w := range order[i+1:] {
			for _, first := range []int{0, 2} {
				b := book(t, 4)
				add(t, b, v, first, first+1)
				add(t, b, w, 2-first, 3-first)
				for need := 1; need <= 2; need++ {
					c, ok := b.Best(api.Prepare, need)
					isCert(t, "Best", c, ok, certOf(v, []int{first, first + 1}[:need]...))
				}
			}
		}
	}
	// All at once, one node each: the order in which they came, and the map's, is not seen.
	for turn := range 40 {
		b := book(t, 16)
		at := 0
		for i, v := range order {
			node := (i*7 + turn) % 16
			add(t, b, v, node)
			if i == 0 {
				at = node
			}
		}
		c, ok := b.Best(api.Prepare, 1)
		isCert(t, "of all", c, ok, certOf(order[0], at))
	}
}

func TestBestHasEnough(t *testing.T) {
	b := book(t, 7)
	late, mid, early := vote(9, 1), vote(4, 2), vote(0, 3)
	add(t, b, late, 5)
	add(t, b, mid, 6, 1)
	add(t, b, early, 4, 0, 3)
	add(t, b, commit(vote(2, 4)), 0, 1, 2, 3)
	for _, x := range []struct {
		need int
		want api.Cert
	}{{1, certOf(late, 5)}, {2, certOf(mid, 1, 6)}, {3, certOf(early, 0, 3, 4)}} {
		c, ok := b.Best(api.Prepare, x.need)
		isCert(t, "Best", c, ok, x.want)
	}
	for _, need := range append(wrong(), 0, 4, 7, 8) {
		c, ok := b.Best(api.Prepare, need)
		noCert(t, "Best", c, ok)
	}
	c, ok := b.Best(api.Commit, 4)
	isCert(t, "Best of Commit", c, ok, certOf(commit(vote(2, 4)), 0, 1, 2, 3))
	for _, kind := range append(wrong(), 0, 3) {
		for _, need := range []int{-1, 0, 1, 2} {
			c, ok := b.Best(kind, need)
			noCert(t, "of no kind", c, ok)
		}
	}
}

func TestBestWithoutVotes(t *testing.T) {
	b := book(t, 4)
	for _, kind := range []int{0, api.Prepare, api.Commit} {
		for _, need := range []int{math.MinInt, -1, 0, 1, 3} {
			c, ok := b.Best(kind, need)
			noCert(t, "Best", c, ok)
			c, ok = b.Cert(api.Vote{Kind: kind}, need)
			noCert(t, "Cert", c, ok)
		}
	}
	if b.Count(api.Vote{}) != 0 || b.Count(api.Vote{Kind: api.Prepare}) != 0 {
		t.Error("a book without votes counts some")
	}
}

// Rule 1: what no call made.

func TestNotMade(t *testing.T) {
	for name, b := range map[string]*Book{"nil": nil, "plain": {}, "new": new(Book)} {
		for _, node := range append(wrong(), 0, 1, 4) {
			for _, v := range []api.Vote{{}, vote(0, 1), commit(vote(0, 1))} {
				if err := b.Add(node, v, api.Tag{1}); err != api.ErrNil {
					t.Errorf("%s: Add: %d, want ErrNil", name, int(err))
				}
				if b.Count(v) != 0 {
					t.Errorf("%s: Count: %d", name, b.Count(v))
				}
				for _, need := range []int{-1, 0, 1, 3} {
					c, ok := b.Cert(v, need)
					noCert(t, name, c, ok)
					c, ok = b.Best(v.Kind, need)
					noCert(t, name, c, ok)
				}
				if got, tag, ok := b.Of(v.Kind, node); ok || got != (api.Vote{}) || tag != (api.Tag{}) {
					t.Errorf("%s: Of: %v %v %v", name, got, tag, ok)
				}
			}
		}
	}
}

// Rule 4: what is handed out is new memory, and asking changes nothing.

func TestSignsAreNew(t *testing.T) {
	b := book(t, 4)
	v := vote(0, 1)
	add(t, b, v, 0, 1, 2)
	before := look(b)
	for _, ask := range []func() (api.Cert, bool){
		func() (api.Cert, bool) { return b.Cert(v, 2) },
		func() (api.Cert, bool) { return b.Best(api.Prepare, 2) },
	} {
		first, _ := ask()
		kept, _ := ask()
		for i := range first.Signs {
			first.Signs[i] = api.Sign{Node: 77}
		}
		_ = append(first.Signs, api.Sign{Node: 78})
		again, ok := ask()
		isCert(t, "again", again, ok, certOf(v, 0, 1))
		isCert(t, "kept", kept, ok, certOf(v, 0, 1))
	}
	if !slices.Equal(look(b), before) {
		t.Error("asking changed something")
	}
}

func TestBooksAreApart(t *testing.T) {
	a, b := book(t, 4), book(t, 4)
	add(t, a, vote(0, 1), 0, 1)
	if b.Count(vote(0, 1)) != 0 {
		t.Error("a vote of another book")
	}
	add(t, b, vote(0, 2), 0)
	if a.Count(vote(0, 1)) != 2 {
		t.Error("another book's vote took its place")
	}
}

// P17.3, P17.4, and all calls against a book that is a list.

// heard is what a node said.
type heard struct {
	node int
	vote api.Vote
	tag  api.Tag
}

// plainBook is a book as the chapter's words say it, without a map.
type plainBook struct {
	nodes int
	last  []heard
}

func (p *plainBook) at(kind, node int) int {
	return slices.IndexFunc(p.last, func(h heard) bool { return h.vote.Kind == kind && h.node == node })
}

func (p *plainBook) add(node int, v api.Vote, tag api.Tag) api.Errno {
	if node < 0 || node >= p.nodes || v.Kind != api.Prepare && v.Kind != api.Commit {
		return api.ErrArg
	}
	i := p.at(v.Kind, node)
	switch {
	case i < 0:
		p.last = append(p.last, heard{node, v, tag})
	case p.last[i].vote == v:
	case p.last[i].vote.View == v.View:
		return api.ErrOther
	case p.last[i].vote.View > v.View:
		return api.ErrOld
	default:
		p.last[i] = heard{node, v, tag}
	}
	return api.OK
}

func (p *plainBook) cert(v api.Vote, need int) (api.Cert, bool) {
	c := api.Cert{Vote: v}
	for node := range p.nodes {
		if i := p.at(v.Kind, node); i >= 0 && p.last[i].vote == v && len(c.Signs) < need {
			c.Signs = append(c.Signs, api.Sign{Node: node, Tag: p.last[i].tag})
		}
	}
	if need < 1 || len(c.Signs) < need {
		return api.Cert{}, false
	}
	return c, true
}

func (p *plainBook) best(kind, need int) (api.Cert, bool) {
	var l []api.Cert
	for _, h := range p.last {
		if c, ok := p.cert(h.vote, need); ok && h.vote.Kind == kind {
			l = append(l, c)
		}
	}
	if len(l) == 0 {
		return api.Cert{}, false
	}
	return slices.MinFunc(l, func(x, y api.Cert) int {
		a, b := x.Vote, y.Vote
		if a.View != b.View {
			return b.View - a.View
		}
		if d := slices.Compare(a.Digest[:], b.Digest[:]); d != 0 {
			return d
		}
		if a.Epoch != b.Epoch {
			return a.Epoch - b.Epoch
		}
		return a.Slot - b.Slot
	}), true
}

func TestAgainstPlainBook(t *testing.T) {
	state := uint32(1)
	below := func(n int) int {
		state = state*1664525 + 1013904223
		return int(state>>16) % n
	}
	some := func() api.Vote {
		return api.Vote{Kind: below(22) % 4, Epoch: 1 + below(8)/7, View: below(4), Slot: 3 + below(8)/7, Digest: api.Digest{byte(below(2))}}
	}
	errs := map[api.Errno]int{}
	for range 60 {
		nodes := []int{4, 7, 10}[below(3)]
		b, p := book(t, nodes), &plainBook{nodes: nodes}
		for range 60 {
			node, v, tag := below(nodes+2)-1, some(), api.Tag{byte(below(200))}
			before := look(b)
			err := b.Add(node, v, tag)
			if want := p.add(node, v, tag); err != want {
				t.Fatalf("Add(%d, %v): %d, want %d", node, v, int(err), int(want))
			}
			errs[err]++
			if err != api.OK && !slices.Equal(look(b), before) {
				t.Fatalf("Add(%d, %v): refused, and something changed", node, v)
			}
			for kind := range 4 {
				once(t, b, kind, nodes)
				for need := range nodes + 2 {
					got, ok := b.Best(kind, need)
					if want, is := p.best(kind, need); ok != is || !sameCert(got, want) {
						t.Fatalf("Best(%d, %d): %v %v, want %v %v", kind, need, got, ok, want, is)
					}
					v := some()
					got, ok = b.Cert(v, need)
					if want, is := p.cert(v, need); ok != is || !sameCert(got, want) {
						t.Fatalf("Cert(%v, %d): %v %v, want %v %v", v, need, got, ok, want, is)
					}
				}
			}
		}
	}
	for _, err := range []api.Errno{api.OK, api.ErrArg, api.ErrOther, api.ErrOld} {
		if errs[err] == 0 {
			t.Errorf("the error %d was never met", int(err))
		}
	}
}

// once tests that of a kind no node counts twice, and that more than half of the nodes have one vote at most.
func once(t *testing.T, b *Book, kind, nodes int) {
	t.Helper()
	var unlike []api.Vote
	voters := 0
	for node := range nodes {
		v, _, ok := b.Of(kind, node)
		if !ok {
			continue
		}
		voters++
		if !slices.Contains(unlike, v) {
			unlike = append(unlike, v)
		}
	}
	sum, certs := 0, 0
	for _, v := range unlike {
		n := b.Count(v)
		sum += n
		if c, ok := b.Cert(v, n); !ok || !rising(quorum.Nodes(c.Signs)) {
			t.Fatalf("Cert(%v, %d): %v %v", v, n, c, ok)
		}
		if _, ok := b.Cert(v, nodes/2+1); ok {
			certs++
		}
	}
	if sum != voters || certs > 1 {
		t.Fatalf("kind %d: %d nodes of %d are counted, %d have a cert", kind, sum, voters, certs)
	}
}

// rising tells whether each number is above the one ahead.
func rising(l []int) bool {
	for i := range l {
		if i > 0 && l[i] <= l[i-1] {
			return false
		}
	}
	return true
}

// P17.3: a node that goes to another vote is counted for that one alone.

func TestMovedNodeCountsOnce(t *testing.T) {
	b := book(t, 4)
	v, w := vote(0, 1), vote(1, 2)
	add(t, b, v, 0, 1, 2)
	add(t, b, v, 0, 1, 2)
	if b.Count(v) != 3 {
		t.Errorf("said twice: %d, want 3", b.Count(v))
	}
	add(t, b, w, 1)
	if b.Count(v) != 2 || b.Count(w) != 1 {
		t.Errorf("behind a later vote: %d and %d, want 2 and 1", b.Count(v), b.Count(w))
	}
	c, ok := b.Cert(v, 3)
	noCert(t, "three of two", c, ok)
	c, ok = b.Cert(v, 2)
	isCert(t, "the two left", c, ok, certOf(v, 0, 2))
}

// P17.4: with less than more than half there may be two, and so the half itself is tested.

func TestHalfIsNotEnoughForOne(t *testing.T) {
	b := book(t, 4)
	v, w := vote(0, 1), vote(0, 2)
	add(t, b, v, 0, 1)
	add(t, b, w, 2, 3)
	for _, x := range []api.Vote{v, w} {
		if _, ok := b.Cert(x, 2); !ok {
			t.Error("no cert of half the nodes")
		}
		if _, ok := b.Cert(x, 3); ok {
			t.Error("a cert of more than half the nodes")
		}
	}
	c, ok := b.Best(api.Prepare, 2)
	isCert(t, "Best", c, ok, certOf(v, 0, 1))
}
