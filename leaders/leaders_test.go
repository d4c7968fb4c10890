package leaders

import (
	"math"
	"slices"
	"testing"

	"raddle/api"
)

// four is a config that may be, of four nodes and four buckets.
func four() api.Config {
	return api.Config{Nodes: 4, Clients: 2, Window: 4, Buckets: 4, Cap: 2, Slots: 2, Requests: 2, Timeout: 12, Penalty: 1, Last: 100}
}

// sized is a config that may be, of so many nodes and buckets.
func sized(nodes, buckets, penalty int) api.Config {
	c := four()
	c.Nodes, c.Buckets, c.Penalty = nodes, buckets, penalty
	return c
}

// goodNumbers of nodes are written out, so that they are not the program's own.
func goodNumbers() []int {
	return []int{4, 7, 10, 13, 16, 19, 22, 25, 28, 31, 34, 37, 40, 43, 46, 49, 52, 55, 58, 61, 64}
}

// someOf tells how many of so many nodes have an honest one among them.
func someOf(nodes int) int {
	return (nodes-1)/3 + 1
}

func upTo(n int) []int {
	var out []int
	for i := range n {
		out = append(out, i)
	}
	return out
}

// chance makes numbers below n without a rule that is seen, the same in each run.
func chance(seed uint64) func(n int) int {
	return func(n int) int {
		seed = seed*6364136223846793005 + 1442695040888963407
		return int(seed>>33) % n
	}
}

// field is one of a config's numbers, with its least and its greatest.
type field struct {
	name        string
	least, most int
	of          func(c *api.Config) *int
}

// fields are all but Nodes and Buckets, written out by the document's words.
func fields() []field {
	return []field{
		{"Clients", 1, 8, func(c *api.Config) *int { return &c.Clients }},
		{"Window", 1, 64, func(c *api.Config) *int { return &c.Window }},
		{"Cap", 1, 16, func(c *api.Config) *int { return &c.Cap }},
		{"Slots", 1, 4, func(c *api.Config) *int { return &c.Slots }},
		{"Requests", 1, 4, func(c *api.Config) *int { return &c.Requests }},
		{"Timeout", 12, 64, func(c *api.Config) *int { return &c.Timeout }},
		{"Penalty", 0, 8, func(c *api.Config) *int { return &c.Penalty }},
		{"Last", 1, 1 << 20, func(c *api.Config) *int { return &c.Last }},
	}
}

// ends are the configs in which each field is at its least, or each at its greatest.
func ends() []api.Config {
	low, high := sized(4, 1, 0), sized(64, 64, 8)
	for _, f := range fields() {
		*f.of(&low), *f.of(&high) = f.least, f.most
	}
	return []api.Config{low, high, four()}
}

// never are configs that may not be.
func never() []api.Config {
	out := []api.Config{{}}
	for _, c := range ends() {
		for _, f := range fields() {
			for _, x := range []int{math.MinInt, f.least - 1, f.most + 1, math.MaxInt} {
				d := c
				*f.of(&d) = x
				out = append(out, d)
			}
		}
		for _, x := range []int{math.MinInt, -1, 0, c.Nodes + 1, math.MaxInt} {
			d := c
			d.Buckets = x
			out = append(out, d)
		}
		for _, x := range []int{math.MinInt, math.MinInt + 1, -2, -1, 0, 1, 2, 3, 5, 6, 8, 9, 62, 63, 65, 66, 67, 70, 1 << 32, 1<<32 + 4, math.MaxInt - 2, math.MaxInt - 1, math.MaxInt} {
			d := c
			// A single bucket: what is wrong are the nodes.
			d.Nodes, d.Buckets = x, 1
			out = append(out, d)
		}
	}
	return out
}

// P11.1

func TestGood(t *testing.T) {
	for _, c := range ends() {
		if err := Good(c); err != api.OK {
			t.Errorf("%+v: %d", c, int(err))
		}
		for _, f := range fields() {
			for _, x := range []int{f.least, f.most} {
				d := c
				*f.of(&d) = x
				if err := Good(d); err != api.OK {
					t.Errorf("%s of %d: %d", f.name, x, int(err))
				}
			}
			for _, x := range []int{math.MinInt, -f.least - 1, f.least - 1, f.most + 1, math.MaxInt} {
				d := c
				*f.of(&d) = x
				if err := Good(d); err != api.ErrConfig {
					t.Errorf("%s of %d: %d, not ErrConfig", f.name, x, int(err))
				}
			}
		}
	}
}

func TestGoodNodesAndBuckets(t *testing.T) {
	for nodes := -5; nodes <= 140; nodes++ {
		for buckets := -2; buckets <= 140; buckets++ {
			want := api.ErrConfig
			if slices.Contains(goodNumbers(), nodes) && buckets >= 1 && buckets <= nodes {
				want = api.OK
			}
			if err := Good(sized(nodes, buckets, 1)); err != want {
				t.Errorf("%d nodes, %d buckets: %d, not %d", nodes, buckets, int(err), int(want))
			}
		}
	}
	for i, c := range never() {
		if err := Good(c); err != api.ErrConfig {
			t.Errorf("%d: %+v: %d, not ErrConfig", i, c, int(err))
		}
	}
	// Two that are wrong are one error as well.
	if err := Good(api.Config{Nodes: 5, Buckets: 9, Last: -1}); err != api.ErrConfig {
		t.Error(int(err))
	}
}

func TestList(t *testing.T) {
	const last = api.MaxEpoch
	all := []int{0, 1, 2, 3}
	for _, x := range []struct {
		name  string
		epoch int
		penal []int
		want  []int
	}{
		{"nil", 1, nil, all},
		{"empty", 1, []int{}, all},
		{"one short", 5, []int{6, 5, 9}, []int{1, 3}},
		{"just one place", 5, []int{6}, []int{1, 2, 3}},
		{"longer: what is behind the nodes is nobody's", 5, []int{6, 5, 5, 6, 9, 0, math.MaxInt}, []int{1, 2}},
		{"below 0", 1, []int{-1, math.MinInt, 2, 2}, []int{0, 1}},
		{"at epoch", 5, []int{5, 5, 5, 5}, all},
		{"one above it", 5, []int{5, 6, 5, 5}, []int{0, 2, 3}},
		{"one below it", 5, []int{4, 6, 4, 6}, []int{0, 2}},
		{"the greatest int", 5, []int{math.MaxInt, 5, 5, math.MaxInt}, []int{1, 2}},
		{"just Some are left", 5, []int{6, 6, 5, 5}, []int{2, 3}},
		{"just Some are left, without places", 5, []int{6, 6}, []int{2, 3}},
		{"one fewer", 5, []int{6, 6, 6, 5}, all},
		{"one fewer, without a place", 5, []int{6, 6, 6}, all},
		{"none is left", 5, []int{6, 7, 8, 9}, all},
		{"the first epoch", 1, []int{0, 1, 2, 1}, []int{0, 1, 3}},
		{"the last epoch", last, []int{last, last + 1, 0, last - 1}, []int{0, 2, 3}},
	} {
		if l := List(four(), x.epoch, x.penal); !slices.Equal(l, x.want) {
			t.Errorf("%s: %v, not %v", x.name, l, x.want)
		}
	}
	for _, epoch := range []int{math.MinInt, -1, 0, last + 1, math.MaxInt} {
		if l := List(four(), epoch, nil); len(l) != 0 {
			t.Errorf("epoch %d: %v", epoch, l)
		}
		if l := List(four(), epoch, []int{math.MinInt, math.MinInt, math.MinInt, math.MinInt}); len(l) != 0 {
			t.Errorf("epoch %d: %v", epoch, l)
		}
	}
	// Epochs are held against MaxEpoch, not against the config's Last.
	c := four()
	c.Last = 1
	if l := List(c, 2, nil); !slices.Equal(l, all) {
		t.Error(l)
	}
}

func TestListSome(t *testing.T) {
	for _, nodes := range goodNumbers() {
		c, some := sized(nodes, 1, 0), someOf(nodes)
		for left := range nodes + 1 {
			// The last so many are left: those without a place, or with a place at the epoch.
			want := upTo(nodes)
			if left >= some {
				want = want[nodes-left:]
			}
			penal := slices.Repeat([]int{8}, nodes-left)
			if l := List(c, 7, penal); !slices.Equal(l, want) {
				t.Errorf("%d of %d are left: %v", left, nodes, l)
			}
			if l := List(c, 7, append(penal, slices.Repeat([]int{7}, left)...)); !slices.Equal(l, want) {
				t.Errorf("%d of %d are left: %v", left, nodes, l)
			}
		}
	}
}

func TestConfigsThatMayNotBe(t *testing.T) {
	for _, c := range never() {
		if l := List(c, 1, nil); len(l) != 0 {
			t.Errorf("%+v: List %v", c, l)
		}
		for _, node := range []int{-1, 0, 1} {
			if o := Owner(c, 1, []int{0, 1, 2, 3}, node); o != -1 {
				t.Errorf("%+v: Owner %d", c, o)
			}
			if l := Buckets(c, 1, []int{0, 1, 2, 3}, node); len(l) != 0 {
				t.Errorf("%+v: Buckets %v", c, l)
			}
			if l := Buckets(c, 1, nil, node); len(l) != 0 {
				t.Errorf("%+v: Buckets %v", c, l)
			}
		}
		if l := Penalize(c, 1, []int{1, 2, 3, 4}, []int{0}); len(l) != 0 {
			t.Errorf("%+v: Penalize %v", c, l)
		}
	}
}

// P11.2

func TestExample(t *testing.T) {
	c := four()
	all := []int{0, 1, 2, 3}
	if Owner(c, 1, all, 0) != 1 || Owner(c, 1, all, 3) != 0 {
		t.Error("all lead", Owner(c, 1, all, 0), Owner(c, 1, all, 3))
	}
	without := []int{0, 2, 3}
	if Owner(c, 1, without, 0) != 2 || !slices.Equal(Buckets(c, 1, without, 2), []int{1, 0}) {
		t.Error("without leader 1", Owner(c, 1, without, 0), Buckets(c, 1, without, 2))
	}
}

func TestOwner(t *testing.T) {
	c, few := four(), sized(4, 2, 0)
	for _, x := range []struct {
		name   string
		c      api.Config
		epoch  int
		l      []int
		bucket int
		want   int
	}{
		{"nil", c, 1, nil, 0, -1},
		{"empty", c, 1, []int{}, 0, -1},
		{"no nodes", c, 1, []int{-1, 4, 7, math.MinInt, math.MaxInt}, 1, -1},
		{"one node among what is none", c, 1, []int{-1, 4, 3, math.MaxInt}, 0, 3},
		{"falling", c, 1, []int{3, 2, 0}, 0, 2},
		{"more than once", c, 1, []int{3, 3, 0, 0, 3}, 3, 0},
		{"round behind the last node", c, 1, []int{1}, 1, 1},
		{"its own turn", c, 1, []int{0, 1, 2, 3}, 2, 3},
		{"bucket -1", c, 1, []int{0, 1, 2, 3}, -1, -1},
		{"bucket of the last place", c, 1, []int{0, 1, 2, 3}, 3, 0},
		{"bucket beyond", c, 1, []int{0, 1, 2, 3}, 4, -1},
		{"bucket of the least int", c, 1, []int{0, 1, 2, 3}, math.MinInt, -1},
		{"bucket of the greatest int", c, 1, []int{0, 1, 2, 3}, math.MaxInt, -1},
		{"few buckets, the last one", few, 1, []int{0, 1, 2, 3}, 1, 2},
		{"few buckets, one beyond", few, 1, []int{0, 1, 2, 3}, 2, -1},
		{"epoch -1", c, -1, []int{0, 1, 2, 3}, 1, -1},
		{"epoch 0", c, 0, []int{0, 1, 2, 3}, 0, -1},
		{"the last epoch", c, api.MaxEpoch, []int{0, 1, 2, 3}, 1, 1},
		{"one epoch beyond", c, api.MaxEpoch + 1, []int{0, 1, 2, 3}, 0, -1},
		{"the least epoch", c, math.MinInt, []int{0, 1, 2, 3}, 0, -1},
		{"the greatest epoch", c, math.MaxInt, []int{0, 1, 2, 3}, 0, -1},
	} {
		if o := Owner(x.c, x.epoch, x.l, x.bucket); o != x.want {
			t.Errorf("%s: %d, not %d", x.name, o, x.want)
		}
	}
}

func TestBuckets(t *testing.T) {
	c, few := four(), sized(4, 2, 0)
	for _, x := range []struct {
		name  string
		c     api.Config
		epoch int
		l     []int
		node  int
		want  []int
	}{
		{"one leads alone, one bucket in front", c, 1, []int{2}, 2, []int{1, 0, 2, 3}},
		{"one leads alone, the last bucket in front", c, 1, []int{0}, 0, []int{3, 0, 1, 2}},
		{"one leads alone, the first bucket in front", c, 1, []int{1}, 1, []int{0, 1, 2, 3}},
		{"few buckets, none that stands first", few, 1, []int{0}, 0, []int{0, 1}},
		{"few buckets, one that stands first", few, 1, []int{2}, 2, []int{1, 0}},
		{"few buckets, none at all", few, 1, []int{0, 1, 2, 3}, 3, nil},
		{"none of l", c, 1, []int{0, 2, 3}, 1, nil},
		{"none of an empty l", c, 1, nil, 1, nil},
		{"no node, though it stands in l", c, 1, []int{0, -1, 4}, 4, nil},
		{"-1, though it stands in l", c, 1, []int{-1, 0}, -1, nil},
		{"-1, where no bucket has an owner", c, 1, nil, -1, nil},
		{"-1, where l has no node", c, 1, []int{-1, 9}, -1, nil},
		{"the least int", c, 1, []int{0, math.MinInt}, math.MinInt, nil},
		{"the greatest int", c, 1, []int{0, math.MaxInt}, math.MaxInt, nil},
		{"in any order, more than once", c, 1, []int{3, 0, 7, 3, 0, -2}, 3, []int{2, 0, 1}},
		{"epoch 0", c, 0, []int{0, 1, 2, 3}, 0, nil},
		{"epoch -1", c, -1, []int{0, 1, 2, 3}, 0, nil},
		{"the last epoch", c, api.MaxEpoch, []int{0, 1, 2, 3}, 0, []int{0}},
		{"one epoch beyond", c, api.MaxEpoch + 1, []int{0, 1, 2, 3}, 0, nil},
		{"one epoch beyond, of -1", c, api.MaxEpoch + 1, []int{0}, -1, nil},
	} {
		if l := Buckets(x.c, x.epoch, x.l, x.node); !slices.Equal(l, x.want) {
			t.Errorf("%s: %v, not %v", x.name, l, x.want)
		}
	}
}

// slowOwner tells by the document's words who owns a bucket, all arguments being such as may be.
func slowOwner(c api.Config, epoch int, l []int, bucket int) int {
	node := (bucket + epoch) % c.Nodes
	for range c.Nodes {
		if slices.Contains(l, node) {
			return node
		}
		node++
		if node == c.Nodes {
			node = 0
		}
	}
	return -1
}

// slowBuckets tells likewise the buckets of a node.
func slowBuckets(c api.Config, epoch int, l []int, node int) []int {
	var out []int
	for b := range c.Buckets {
		if slowOwner(c, epoch, l, b) == node && (b+epoch)%c.Nodes == node {
			out = append(out, b)
		}
	}
	for b := range c.Buckets {
		if slowOwner(c, epoch, l, b) == node && !slices.Contains(out, b) {
			out = append(out, b)
		}
	}
	return out
}

func TestOwnersByTheWords(t *testing.T) {
	below := chance(11)
	for range 400 {
		nodes := goodNumbers()[below(21)]
		c := sized(nodes, 1+below(nodes), below(9))
		epoch := 1 + below(api.MaxEpoch)
		var l []int
		for range below(nodes + 3) {
			l = append(l, below(nodes+4)-2)
		}
		for b := range c.Buckets {
			if o, want := Owner(c, epoch, l, b), slowOwner(c, epoch, l, b); o != want {
				t.Fatalf("Owner of %d of %d nodes, epoch %d, l %v: %d, not %d", b, nodes, epoch, l, o, want)
			}
		}
		for node := range nodes {
			if got, want := Buckets(c, epoch, l, node), slowBuckets(c, epoch, l, node); !slices.Equal(got, want) {
				t.Fatalf("Buckets of %d of %d nodes, epoch %d, l %v: %v, not %v", node, nodes, epoch, l, got, want)
			}
		}
	}
}

func TestLongLists(t *testing.T) {
	c := sized(64, 64, 0)
	l := slices.Repeat([]int{-1, 64, math.MaxInt}, 1<<19)
	if Owner(c, 1, l, 0) != -1 || len(Buckets(c, 1, l, 5)) != 0 {
		t.Error("no node of a long list owns something")
	}
	l = append(l, 5)
	if Owner(c, 1, l, 63) != 5 || len(Buckets(c, 1, l, 5)) != 64 || Penalize(c, 1, nil, l)[5] != 2 {
		t.Error("the last one of a long list")
	}
}

// P11.3

func TestPenalize(t *testing.T) {
	const last = api.MaxEpoch
	for _, x := range []struct {
		name       string
		penalty    int
		epoch      int
		penal, bad []int
		want       []int
	}{
		{"nil", 1, 5, nil, nil, []int{0, 0, 0, 0}},
		{"empty", 1, 5, []int{}, []int{}, []int{0, 0, 0, 0}},
		{"bad nil", 1, 5, []int{1, 2, 3, 4}, nil, []int{1, 2, 3, 4}},
		{"a short penal", 1, 5, []int{1, 2}, []int{3, 0, 9}, []int{7, 2, 0, 7}},
		{"a long penal", 1, 5, []int{1, 2, 3, 4, 5, 6}, []int{2}, []int{1, 2, 7, 4}},
		{"no nodes", 1, 5, []int{1, 2, 3, 4}, []int{-1, 4, 64, math.MinInt, math.MaxInt}, []int{1, 2, 3, 4}},
		{"the same node twice", 2, 5, []int{1, 2, 3, 4}, []int{1, 3, 1, 1}, []int{1, 8, 3, 8}},
		{"all", 8, 5, nil, []int{3, 2, 1, 0}, []int{14, 14, 14, 14}},
		{"no Penalty", 0, 5, []int{9, 9, 9, 9}, []int{0}, []int{6, 9, 9, 9}},
		{"a greater one goes down", 1, 5, []int{math.MaxInt, math.MaxInt, 100, 8}, []int{0, 2, 3}, []int{7, math.MaxInt, 7, 7}},
		{"below 0", 1, 5, []int{-1, math.MinInt, -7, -8}, []int{2}, []int{-1, math.MinInt, 7, -8}},
		{"the first epoch", 0, 1, nil, []int{3}, []int{0, 0, 0, 2}},
		{"the last epoch", 8, last, []int{last}, []int{1}, []int{last, last + 9, 0, 0}},
		{"epoch 0", 1, 0, []int{1}, []int{1}, nil},
		{"epoch -1", 1, -1, []int{1}, []int{1}, nil},
		{"one epoch beyond", 1, last + 1, []int{1}, []int{1}, nil},
		{"the least epoch", 1, math.MinInt, nil, nil, nil},
		{"the greatest epoch", 1, math.MaxInt, nil, []int{1}, nil},
	} {
		if l := Penalize(sized(4, 4, x.penalty), x.epoch, x.penal, x.bad); !slices.Equal(l, x.want) {
			t.Errorf("%s: %v, not %v", x.name, l, x.want)
		}
	}
}

func TestPenalizeByTheWords(t *testing.T) {
	below := chance(13)
	for range 300 {
		nodes := goodNumbers()[below(21)]
		c, epoch := sized(nodes, 1, below(9)), 1+below(api.MaxEpoch)
		penal, bad := make([]int, below(2*nodes)), make([]int, below(nodes))
		for i := range penal {
			penal[i] = below(1000) - 500
		}
		for i := range bad {
			bad[i] = below(nodes+8) - 4
		}
		got := Penalize(c, epoch, penal, bad)
		if len(got) != nodes {
			t.Fatalf("%d numbers of %d nodes", len(got), nodes)
		}
		for node, x := range got {
			want := 0
			if node < len(penal) {
				want = penal[node]
			}
			if slices.Contains(bad, node) {
				want = epoch + 1 + c.Penalty
			}
			if x != want {
				t.Fatalf("node %d: %d, not %d", node, x, want)
			}
		}
	}
}

// P11.4

func TestOne(t *testing.T) {
	below := chance(17)
	for i := range 400 {
		nodes := goodNumbers()[below(21)]
		c := sized(nodes, 1+below(nodes), below(9))
		epoch := []int{1, 1 + below(200), 1 + below(api.MaxEpoch), api.MaxEpoch}[i%4]
		penal := make([]int, below(nodes+3))
		for j := range penal {
			penal[j] = epoch + below(3+i%5) - 2
		}
		l := List(c, epoch, penal)
		if len(l) < someOf(nodes) || !slices.IsSorted(l) {
			t.Fatalf("%d leaders of %d nodes: %v", len(l), nodes, l)
		}
		var together []int
		for _, node := range l {
			own := Buckets(c, epoch, l, node)
			for _, b := range own {
				if Owner(c, epoch, l, b) != node {
					t.Fatalf("bucket %d is %d's, not %d's", b, Owner(c, epoch, l, b), node)
				}
			}
			together = append(together, own...)
		}
		slices.Sort(together)
		if !slices.Equal(together, upTo(c.Buckets)) {
			t.Fatalf("the leaders' buckets together: %v", together)
		}
		for b := range c.Buckets {
			if o := Owner(c, epoch, l, b); !slices.Contains(l, o) {
				t.Fatalf("bucket %d is %d's, who is none of %v", b, o, l)
			}
		}
		for node := -1; node <= nodes; node++ {
			if own := Buckets(c, epoch, l, node); !slices.Contains(l, node) && len(own) != 0 {
				t.Fatalf("%d does not lead, and has %v", node, own)
			}
		}
	}
}

// P11.5

func TestRound(t *testing.T) {
	below := chance(19)
	for i := range 60 {
		nodes := goodNumbers()[below(21)]
		c := sized(nodes, 1+below(nodes), below(9))
		// The last round that there is, the first one, and any other.
		start := []int{api.MaxEpoch - nodes + 1, 1, 1 + below(api.MaxEpoch-nodes)}[i%3]
		node := below(nodes)
		first := make([]int, c.Buckets)
		for epoch := start; epoch < start+nodes; epoch++ {
			// The others lead or not, epoch by epoch.
			l := []int{node}
			for range below(nodes) {
				l = append(l, below(nodes))
			}
			own := Buckets(c, epoch, l, node)
			for b := range c.Buckets {
				if (b+epoch)%nodes == node {
					first[b]++
					if len(own) == 0 || own[0] != b {
						t.Fatalf("epoch %d: %d has %v, not %d first", epoch, node, own, b)
					}
				}
			}
		}
		for b, times := range first {
			if times != 1 {
				t.Fatalf("bucket %d was %d's first %d times", b, node, times)
			}
		}
	}
}

// P11.6

func TestBack(t *testing.T) {
	below := chance(23)
	for range 300 {
		nodes := goodNumbers()[below(21)]
		c := sized(nodes, 1, below(9))
		epoch := 1 + below(api.MaxEpoch-20)
		// Few enough are penalized that the others can lead without them.
		bad := make([]int, 1+below(nodes-someOf(nodes)))
		for i := range bad {
			bad[i] = below(nodes)
		}
		penal := Penalize(c, epoch, slices.Repeat([]int{epoch}, nodes), bad)
		for later := epoch + 1; later <= epoch+12; later++ {
			l := List(c, later, penal)
			for node := range nodes {
				want := !slices.Contains(bad, node) || later >= epoch+1+c.Penalty
				if slices.Contains(l, node) != want {
					t.Fatalf("Penalty %d, %v penalized in epoch %d: in epoch %d lead %v", c.Penalty, bad, epoch, later, l)
				}
			}
		}
	}
	// So many are penalized that all lead: none sits out longer for it.
	c := sized(4, 4, 8)
	penal := Penalize(c, 3, nil, []int{0, 1, 2})
	for later := 4; later < 20; later++ {
		if l := List(c, later, penal); !slices.Equal(l, upTo(4)) {
			t.Error(later, l)
		}
	}
}

// Rules 4, 5 and 8: what is handed in stays, its spare room too, and what is told is new memory.

func TestArgumentsStay(t *testing.T) {
	c := four()
	penal, bad, l := []int{6, 5, 9, 6, 77, 78}, []int{3, 0, 9, 79}, []int{3, 0, 2, 1, 81}
	tell := func() [4][]int {
		return [4][]int{
			List(c, 5, penal[:3]),
			Penalize(c, 5, penal[:3], bad[:2]),
			Buckets(c, 1, l[:3], 2),
			{Owner(c, 1, l[:3], 0)},
		}
	}
	want := [4][]int{{1, 3}, {7, 5, 9, 7}, {1, 0}, {2}}
	for range 3 {
		got := tell()
		for i := range got {
			if !slices.Equal(got[i], want[i]) {
				t.Errorf("%d: %v, not %v", i, got[i], want[i])
			}
			// Written over, with what is behind it: no later answer tells of it.
			whole := got[i][:cap(got[i])]
			for j := range whole {
				whole[j] = -9
			}
		}
		if !slices.Equal(penal, []int{6, 5, 9, 6, 77, 78}) || !slices.Equal(bad, []int{3, 0, 9, 79}) || !slices.Equal(l, []int{3, 0, 2, 1, 81}) {
			t.Fatal("what was handed in is now", penal, bad, l)
		}
	}
	// A penal that is long enough, and nobody bad: the answer is the same numbers, not the same memory.
	same := []int{1, 2, 3, 4}
	Penalize(c, 5, same, nil)[0] = 99
	if same[0] != 1 {
		t.Error("Penalize tells what was handed in")
	}
}
