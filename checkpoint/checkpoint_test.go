package checkpoint

import (
	"math"
	"slices"
	"testing"

	"raddle/api"
)

// marks makes marks of nobody that must come about.
func marks(t *testing.T, nodes int) *Marks {
	t.Helper()
	m := New(nodes)
	if m == nil {
		t.Fatalf("New(%d): nil", nodes)
	}
	return m
}

// tagOf is a tag of its own for each node and mark, so that one that is mixed up is seen.
func tagOf(node, epoch int, d api.Digest) api.Tag {
	return api.Tag{byte(node), byte(epoch), byte(epoch >> 8), byte(epoch >> 16), d[0], d[31]}
}

// add puts a mark of some nodes in, which must not be refused.
func add(t *testing.T, m *Marks, epoch int, d api.Digest, nodes ...int) {
	t.Helper()
	for _, n := range nodes {
		if err := m.Add(n, epoch, d, tagOf(n, epoch, d)); err != api.OK {
			t.Fatalf("Add(%d, %d, %v): %d", n, epoch, d[0], int(err))
		}
	}
}

// signsOf are those nodes' signs.
func signsOf(epoch int, d api.Digest, nodes ...int) []api.Sign {
	var l []api.Sign
	for _, n := range nodes {
		l = append(l, api.Sign{Node: n, Tag: tagOf(n, epoch, d)})
	}
	return l
}

// are tests what Signs tells.
func are(t *testing.T, m *Marks, epoch int, d api.Digest, need int, want ...int) {
	t.Helper()
	if got := m.Signs(epoch, d, need); !slices.Equal(got, signsOf(epoch, d, want...)) {
		t.Errorf("Signs(%d, %d.., %d): %v, want those of %v", epoch, d[0], need, got, want)
	}
}

// told is what Of tells.
type told struct {
	epoch int
	d     api.Digest
}

// look is what marks tell of their nodes, and of such as there are not.
func look(m *Marks) []told {
	var out []told
	for _, node := range append(wrong(), upTo(api.MaxNodes+2)...) {
		epoch, d := m.Of(node)
		out = append(out, told{epoch, d})
	}
	return out
}

func upTo(n int) []int {
	var out []int
	for i := range n {
		out = append(out, i)
	}
	return out
}

// wrong are numbers at the ends of an int's range, and some below zero.
func wrong() []int {
	return []int{math.MinInt, math.MinInt + 1, -2, -1, math.MaxInt - 1, math.MaxInt}
}

// chance makes numbers below n without a rule that is seen, the same in each run.
func chance(seed uint64) func(n int) int {
	return func(n int) int {
		seed = seed*6364136223846793005 + 1442695040888963407
		return int(seed>>33) % n
	}
}

// The chapter's example.

func TestExample(t *testing.T) {
	m := marks(t, 4)
	d := api.Digest{5}
	add(t, m, 1, d, 3, 0, 1)
	are(t, m, 1, d, 3, 0, 1, 3)
	if m.Last(3) != 1 {
		t.Error(m.Last(3))
	}
}

// P23.1

func TestNew(t *testing.T) {
	for n := -10; n <= 80; n++ {
		good := n >= 4 && n <= 64 && n%3 == 1
		m := New(n)
		if (m != nil) != good {
			t.Errorf("New(%d): %v", n, m != nil)
		}
		for _, x := range look(m) {
			if x != (told{}) {
				t.Errorf("New(%d) has a mark: %v", n, x)
			}
		}
	}
	for _, n := range wrong() {
		if New(n) != nil {
			t.Errorf("New(%d) is one", n)
		}
	}
}

func TestAddOfEachNode(t *testing.T) {
	for _, nodes := range []int{4, 7, 64} {
		m := marks(t, nodes)
		for node := range nodes {
			d := api.Digest{byte(node), 31: 7}
			add(t, m, node+1, d, node)
			if epoch, got := m.Of(node); epoch != node+1 || got != d {
				t.Errorf("of %d, node %d: %d %v", nodes, node, epoch, got)
			}
		}
		before := look(m)
		for _, node := range append(wrong(), nodes, nodes+1, nodes+64) {
			// An epoch that may not be is told alike.
			for _, epoch := range []int{1, api.MaxEpoch, 0, -1} {
				if err := m.Add(node, epoch, api.Digest{}, api.Tag{1}); err != api.ErrArg {
					t.Errorf("of %d, node %d: %d, want ErrArg", nodes, node, int(err))
				}
			}
			if epoch, d := m.Of(node); epoch != 0 || d != (api.Digest{}) {
				t.Errorf("of %d, node %d: %d %v", nodes, node, epoch, d)
			}
		}
		if !slices.Equal(look(m), before) {
			t.Error("what was refused is there")
		}
	}
}

func TestAddOfEpochs(t *testing.T) {
	d := api.Digest{1}
	for _, epoch := range []int{1, 2, 255, 256, api.MaxEpoch - 1, api.MaxEpoch} {
		m := marks(t, 4)
		add(t, m, epoch, d, 2)
		if e, x := m.Of(2); e != epoch || x != d {
			t.Error(epoch, e, x)
		}
		are(t, m, epoch, d, 1, 2)
	}
	for _, epoch := range append(wrong(), 0, api.MaxEpoch+1, api.MaxEpoch+2, 1<<40) {
		m := marks(t, 4)
		// The mark that is there is not asked for: this goes ahead.
		for range 2 {
			if err := m.Add(2, epoch, d, api.Tag{1}); err != api.ErrArg {
				t.Errorf("epoch %d: %d, want ErrArg", epoch, int(err))
			}
			add(t, m, api.MaxEpoch, d, 2)
		}
		are(t, m, epoch, d, 1)
		are(t, m, api.MaxEpoch, d, 1, 2)
	}
}

func TestAddByWhatIsThere(t *testing.T) {
	d, other := api.Digest{31: 1}, api.Digest{}
	m := marks(t, 4)
	for i, x := range []struct {
		node, epoch int
		d           api.Digest
		want        api.Errno
		then        told
	}{
		{1, 5, d, api.OK, told{5, d}},
		{1, 5, d, api.OK, told{5, d}},
		{1, 5, other, api.ErrOther, told{5, d}},
		{1, 4, d, api.ErrOld, told{5, d}},
		{1, 4, other, api.ErrOld, told{5, d}},
		{1, 1, d, api.ErrOld, told{5, d}},
		{1, 0, d, api.ErrArg, told{5, d}},
		{4, 5, d, api.ErrArg, told{}},
		{2, 4, other, api.OK, told{4, other}},
		{2, 4, d, api.ErrOther, told{4, other}},
		{1, 6, other, api.OK, told{6, other}},
		{1, 6, d, api.ErrOther, told{6, other}},
		{1, 5, d, api.ErrOld, told{6, other}},
		{1, 5, other, api.ErrOld, told{6, other}},
		{1, api.MaxEpoch, d, api.OK, told{api.MaxEpoch, d}},
		{1, api.MaxEpoch, d, api.OK, told{api.MaxEpoch, d}},
		{1, api.MaxEpoch + 1, d, api.ErrArg, told{api.MaxEpoch, d}},
		{1, api.MaxEpoch - 1, d, api.ErrOld, told{api.MaxEpoch, d}},
	} {
		if err := m.Add(x.node, x.epoch, x.d, api.Tag{byte(i)}); err != x.want {
			t.Errorf("%d: %d, want %d", i, int(err), int(x.want))
		}
		if e, got := m.Of(x.node); (told{e, got}) != x.then {
			t.Errorf("%d: %d %v, want %v", i, e, got, x.then)
		}
	}
}

// Marks of noughts, where nothing was marked, are nobody's.
func TestNobodysMark(t *testing.T) {
	m := marks(t, 4)
	are(t, m, 0, api.Digest{}, 1)
	are(t, m, 0, api.Digest{}, 0)
	are(t, m, 1, api.Digest{}, 1)
	add(t, m, 1, api.Digest{}, 3)
	are(t, m, 0, api.Digest{}, 1)
	are(t, m, 1, api.Digest{}, 1, 3)
}

// The same mark again, with whatever tag, leaves the sign as it was.
func TestTheFirstTagStays(t *testing.T) {
	m := marks(t, 4)
	d := api.Digest{9}
	add(t, m, 3, d, 0)
	if err := m.Add(0, 3, d, api.Tag{1, 2, 3}); err != api.OK {
		t.Error(int(err))
	}
	are(t, m, 3, d, 1, 0)
	for _, x := range []struct {
		epoch int
		d     api.Digest
	}{{3, api.Digest{8}}, {2, d}, {0, d}} {
		m.Add(0, x.epoch, x.d, api.Tag{1, 2, 3})
		are(t, m, 3, d, 1, 0)
		are(t, m, x.epoch, x.d, 1)
	}
	// Of a later mark there is the later one's.
	if err := m.Add(0, 4, d, api.Tag{1, 2, 3}); err != api.OK {
		t.Error(int(err))
	}
	if l := m.Signs(4, d, 1); len(l) != 1 || l[0] != (api.Sign{Tag: api.Tag{1, 2, 3}}) {
		t.Error(l)
	}
	are(t, m, 3, d, 1)
}

// P23.2

func TestSigns(t *testing.T) {
	m := marks(t, 7)
	d, other := api.Digest{1, 31: 1}, api.Digest{1, 31: 2}
	add(t, m, 2, d, 6, 5, 1, 3)
	add(t, m, 2, other, 2)
	add(t, m, 3, d, 0)
	for need, want := range [][]int{nil, {1}, {1, 3}, {1, 3, 5}, {1, 3, 5, 6}, nil, nil, nil, nil} {
		are(t, m, 2, d, need, want...)
	}
	for _, need := range wrong() {
		are(t, m, 2, d, need)
	}
	are(t, m, 2, other, 1, 2)
	are(t, m, 2, other, 2)
	are(t, m, 3, d, 1, 0)
	are(t, m, 3, other, 1)
	are(t, m, 1, d, 1)
	for _, epoch := range wrong() {
		are(t, m, epoch, d, 1)
	}
	// Who goes on to a later mark is no more among them.
	add(t, m, 3, d, 3)
	are(t, m, 2, d, 3, 1, 5, 6)
	are(t, m, 2, d, 4)
	are(t, m, 3, d, 2, 0, 3)
	all := marks(t, 64)
	add(t, all, 1, d, upTo(64)...)
	are(t, all, 1, d, 64, upTo(64)...)
	are(t, all, 1, d, 43, upTo(43)...)
	are(t, all, 1, d, 65)
}

func TestLast(t *testing.T) {
	m := marks(t, 4)
	lasts := func(want ...int) {
		t.Helper()
		for need := -1; need <= 6; need++ {
			w := 0
			if need >= 1 && need <= len(want) {
				w = want[need-1]
			}
			if got := m.Last(need); got != w {
				t.Errorf("Last(%d): %d, want %d", need, got, w)
			}
		}
		for _, need := range wrong() {
			if got := m.Last(need); got != 0 {
				t.Errorf("Last(%d): %d", need, got)
			}
		}
	}
	lasts()
	add(t, m, 7, api.Digest{1}, 2)
	lasts(7)
	add(t, m, 3, api.Digest{1}, 0)
	lasts(7, 3)
	// Whatever their digests are.
	add(t, m, 7, api.Digest{2}, 3)
	lasts(7, 7, 3)
	add(t, m, 5, api.Digest{3}, 1)
	lasts(7, 7, 5, 3)
	add(t, m, api.MaxEpoch, api.Digest{}, 0)
	lasts(api.MaxEpoch, 7, 7, 5)
}

// What is told is new memory, and has no more behind it.
func TestSignsAreNew(t *testing.T) {
	m := marks(t, 4)
	d := api.Digest{1}
	add(t, m, 1, d, 0, 1, 2, 3)
	l := m.Signs(1, d, 2)
	if cap(l) != 2 {
		t.Error("room behind what is told", cap(l))
	}
	clear(l)
	are(t, m, 1, d, 4, 0, 1, 2, 3)
}

// model is marks by the chapter's words: all that were taken, of each node the last one.
type model struct {
	nodes int
	last  []told
	tags  []api.Tag
}

func (m *model) add(node, epoch int, d api.Digest, tag api.Tag) api.Errno {
	if node < 0 || node >= m.nodes || epoch < 1 || epoch > api.MaxEpoch {
		return api.ErrArg
	}
	was := m.last[node]
	switch {
	case was.epoch == epoch && was.d == d:
		return api.OK
	case was.epoch == epoch:
		return api.ErrOther
	case was.epoch > epoch:
		return api.ErrOld
	}
	m.last[node], m.tags[node] = told{epoch, d}, tag
	return api.OK
}

func (m *model) signs(epoch int, d api.Digest, need int) []api.Sign {
	var l []api.Sign
	for node, x := range m.last {
		if x == (told{epoch, d}) && epoch > 0 && len(l) < need {
			l = append(l, api.Sign{Node: node, Tag: m.tags[node]})
		}
	}
	if len(l) != need {
		return nil
	}
	return l
}

// lastOf counts down from the greatest number: the first that so many nodes have reached.
func (m *model) lastOf(need, greatest int) int {
	for n := greatest; n > 0 && need > 0; n-- {
		many := 0
		for _, x := range m.last {
			if x.epoch >= n {
				many++
			}
		}
		if many >= need {
			return n
		}
	}
	return 0
}

func TestByTheWords(t *testing.T) {
	below := chance(23)
	for range 300 {
		nodes := 4 + 3*below(4)
		m, want := marks(t, nodes), &model{nodes: nodes, last: make([]told, nodes), tags: make([]api.Tag, nodes)}
		digests := []api.Digest{{}, {1}, {31: 1}}
		for step := range 40 {
			node, epoch, d, tag := below(nodes+2)-1, below(7), digests[below(3)], api.Tag{byte(step)}
			if got, w := m.Add(node, epoch, d, tag), want.add(node, epoch, d, tag); got != w {
				t.Fatalf("Add(%d, %d, %v): %d, want %d", node, epoch, d, int(got), int(w))
			}
			for node, x := range want.last {
				if e, d := m.Of(node); (told{e, d}) != x {
					t.Fatalf("Of(%d): %d %v, want %v", node, e, d, x)
				}
			}
			need := below(nodes+3) - 1
			for epoch := range 8 {
				for _, d := range digests {
					if got := m.Signs(epoch, d, need); !slices.Equal(got, want.signs(epoch, d, need)) {
						t.Fatalf("Signs(%d, %v, %d): %v", epoch, d, need, got)
					}
				}
			}
			if got, w := m.Last(need), want.lastOf(need, 8); got != w {
				t.Fatalf("Last(%d): %d, want %d", need, got, w)
			}
		}
	}
}

// P23.4

func TestOneDigestOfAnEpoch(t *testing.T) {
	below := chance(4)
	found := 0
	for range 400 {
		nodes := 4 + 3*below(3)
		m := marks(t, nodes)
		digests := []api.Digest{{}, {1}, {2}}
		for range 3 * nodes {
			m.Add(below(nodes), 1+below(2), digests[below(3)], api.Tag{})
		}
		for need := nodes/2 + 1; need <= nodes; need++ {
			for epoch := 1; epoch <= 2; epoch++ {
				many := 0
				for _, d := range digests {
					if len(m.Signs(epoch, d, need)) > 0 {
						many++
					}
				}
				if many > 1 {
					t.Errorf("of %d, need %d: %d digests of epoch %d", nodes, need, many, epoch)
				}
				found += many
			}
		}
	}
	if found == 0 {
		t.Error("nothing was tested")
	}
}

// Rule 1

func TestNoCallMadeIt(t *testing.T) {
	for _, m := range []*Marks{nil, {}} {
		for _, node := range append(wrong(), 0, 1, 4) {
			for _, epoch := range append(wrong(), 0, 1) {
				if err := m.Add(node, epoch, api.Digest{}, api.Tag{}); err != api.ErrNil {
					t.Errorf("Add: %d", int(err))
				}
				if l := m.Signs(epoch, api.Digest{}, node); len(l) != 0 {
					t.Error(l)
				}
			}
			if e, d := m.Of(node); e != 0 || d != (api.Digest{}) {
				t.Error(e, d)
			}
			if m.Last(node) != 0 {
				t.Error(m.Last(node))
			}
		}
	}
}
