package quorum

import (
	"math"
	"math/bits"
	"slices"
	"testing"

	"raddle/api"
	"raddle/seal"
)

const body = "what is signed"

// sign is a sign without a right tag; the mark tells signs of one node apart.
func sign(node int, mark byte) api.Sign {
	return api.Sign{Node: node, Tag: api.Tag{mark, byte(node)}}
}

func signsOf(nodes ...int) []api.Sign {
	var out []api.Sign
	for _, n := range nodes {
		out = append(out, sign(n, 1))
	}
	return out
}

// rightSigns are the nodes' own.
func rightSigns(t *testing.T, k *seal.Keys, nodes ...int) []api.Sign {
	t.Helper()
	var out []api.Sign
	for _, n := range nodes {
		tag, err := k.Sign(n, body)
		if err != api.OK {
			t.Fatalf("Sign(%d): %d", n, int(err))
		}
		out = append(out, api.Sign{Node: n, Tag: tag})
	}
	return out
}

func upTo(n int) []int {
	var out []int
	for i := range n {
		out = append(out, i)
	}
	return out
}

// goodNumbers are written out, so that they are not the program's own.
func goodNumbers() []int {
	return []int{4, 7, 10, 13, 16, 19, 22, 25, 28, 31, 34, 37, 40, 43, 46, 49, 52, 55, 58, 61, 64}
}

// P5.1

func TestNumbersOfNodes(t *testing.T) {
	for f, n := range goodNumbers() {
		f++
		if !Good(n) || Faults(n) != f || Some(n) != f+1 || Most(n) != 2*f+1 {
			t.Errorf("of %d: %v %d %d %d, want f of %d", n, Good(n), Faults(n), Some(n), Most(n), f)
		}
	}
	for _, x := range [][4]int{{4, 1, 2, 3}, {7, 2, 3, 5}, {10, 3, 4, 7}, {61, 20, 21, 41}, {64, 21, 22, 43}} {
		if got := [4]int{x[0], Faults(x[0]), Some(x[0]), Most(x[0])}; got != x {
			t.Errorf("%v, want %v", got, x)
		}
	}
}

func TestNumbersThatAreNotGood(t *testing.T) {
	wrong := []int{math.MinInt, math.MinInt + 1, math.MinInt + 2, math.MaxInt - 2, math.MaxInt - 1, math.MaxInt, 1 << 32, 1<<32 + 4, 1<<40 + 7}
	for n := -200; n <= 400; n++ {
		if !slices.Contains(goodNumbers(), n) {
			wrong = append(wrong, n)
		}
	}
	for _, n := range wrong {
		if Good(n) || Faults(n) != 0 || Some(n) != 0 || Most(n) != 0 {
			t.Errorf("of %d: %v %d %d %d, want nothing", n, Good(n), Faults(n), Some(n), Most(n))
		}
	}
}

// P5.2

func TestAdd(t *testing.T) {
	for _, x := range []struct {
		name string
		l    []api.Sign
		s    api.Sign
		want []api.Sign
	}{
		{"onto nil", nil, sign(3, 2), []api.Sign{sign(3, 2)}},
		{"onto empty", []api.Sign{}, sign(0, 2), []api.Sign{sign(0, 2)}},
		{"at the front", signsOf(1, 3), sign(0, 2), []api.Sign{sign(0, 2), sign(1, 1), sign(3, 1)}},
		{"in the midst", signsOf(1, 3), sign(2, 2), []api.Sign{sign(1, 1), sign(2, 2), sign(3, 1)}},
		{"at the end", signsOf(1, 3), sign(4, 2), []api.Sign{sign(1, 1), sign(3, 1), sign(4, 2)}},
		{"there already", signsOf(1, 3), sign(3, 1), signsOf(1, 3)},
		{"there with another tag, first", signsOf(1, 3, 5), sign(1, 2), signsOf(1, 3, 5)},
		{"there with another tag, in the midst", signsOf(1, 3, 5), sign(3, 2), signsOf(1, 3, 5)},
		{"there with another tag, last", signsOf(1, 3, 5), sign(5, 2), signsOf(1, 3, 5)},
		{"alone already", signsOf(7), sign(7, 2), signsOf(7)},
		{"another node, the same tag", []api.Sign{{Node: 1, Tag: api.Tag{9}}}, api.Sign{Node: 2, Tag: api.Tag{9}}, []api.Sign{{Node: 1, Tag: api.Tag{9}}, {Node: 2, Tag: api.Tag{9}}}},
		{"zero signs", []api.Sign{{}}, api.Sign{}, []api.Sign{{}}},
		{"below 0", signsOf(0, 1), sign(-1, 2), []api.Sign{sign(-1, 2), sign(0, 1), sign(1, 1)}},
		{"the least int", signsOf(-1), sign(math.MinInt, 2), []api.Sign{sign(math.MinInt, 2), sign(-1, 1)}},
		{"the greatest int", signsOf(-1, 70), sign(math.MaxInt, 2), []api.Sign{sign(-1, 1), sign(70, 1), sign(math.MaxInt, 2)}},
		{"between the ends of int", signsOf(math.MinInt, math.MaxInt), sign(0, 2), []api.Sign{sign(math.MinInt, 1), sign(0, 2), sign(math.MaxInt, 1)}},
		{"ahead of the first greater one of a list in no order", signsOf(5, 1, 9, 2), sign(6, 2), []api.Sign{sign(5, 1), sign(1, 1), sign(6, 2), sign(9, 1), sign(2, 1)}},
		{"there behind a greater one", signsOf(5, 1, 9, 2), sign(2, 2), signsOf(5, 1, 9, 2)},
		{"nodes that stand there twice", signsOf(1, 1, 4, 4), sign(3, 2), []api.Sign{sign(1, 1), sign(1, 1), sign(3, 2), sign(4, 1), sign(4, 1)}},
	} {
		was := slices.Clone(x.l)
		if got := Add(x.l, x.s); !slices.Equal(got, x.want) {
			t.Errorf("%s: %v, want %v", x.name, got, x.want)
		}
		if !slices.Equal(x.l, was) {
			t.Errorf("%s: what was handed in is now %v", x.name, x.l)
		}
	}
}

func TestAddLeavesSpareRoom(t *testing.T) {
	whole := signsOf(1, 3, 5, 0, 2, 4)
	was := slices.Clone(whole)
	for _, n := range []int{0, 1, 2, 3, 4, 5, 6} {
		l := whole[:3]
		first, second := Add(l, sign(n, 2)), Add(l, sign(n, 2))
		kept := slices.Clone(second)
		for i := range first {
			first[i] = sign(99, 9)
		}
		_ = append(first, sign(98, 9), sign(97, 9))
		if !slices.Equal(whole, was) {
			t.Fatalf("Add of %d: what was handed in, with its spare room, is now %v", n, whole)
		}
		if !slices.Equal(second, kept) {
			t.Errorf("Add of %d: two answers share memory", n)
		}
	}
	// What lies behind the length is none of the list's.
	if got := Add(whole[:3], sign(4, 2)); !slices.Equal(got, []api.Sign{sign(1, 1), sign(3, 1), sign(4, 2), sign(5, 1)}) {
		t.Errorf("Add of a node of the spare room: %v", got)
	}
}

func TestNodes(t *testing.T) {
	for _, x := range []struct{ nodes []int }{
		{nil}, {[]int{0}}, {[]int{0, 2, 3}}, {[]int{3, 0, 2}}, {[]int{5, 5, 1, 5}}, {[]int{-1, math.MaxInt, math.MinInt}}, {upTo(64)},
	} {
		if got := Nodes(signsOf(x.nodes...)); !slices.Equal(got, x.nodes) {
			t.Errorf("Nodes: %v, want %v", got, x.nodes)
		}
	}
	if got := Nodes([]api.Sign{}); len(got) != 0 {
		t.Errorf("Nodes of an empty list: %v", got)
	}
	whole := signsOf(4, 2, 9, 9)
	was := slices.Clone(whole)
	first, second := Nodes(whole[:2]), Nodes(whole[:2])
	first[0] = 77
	if !slices.Equal(second, []int{4, 2}) || !slices.Equal(whole, was) {
		t.Errorf("Nodes: %v, and what was handed in is now %v", second, whole)
	}
}

// P5.3

func TestCheckTakesRightSigns(t *testing.T) {
	for _, n := range []int{4, 7, 64} {
		k := seal.Derive("seed", n)
		for have := 1; have <= n; have++ {
			low := rightSigns(t, k, upTo(n)[:have]...)
			high := rightSigns(t, k, upTo(n)[n-have:]...)
			for _, need := range []int{1, (have + 1) / 2, have} {
				if err := Check(k, n, body, low, need); err != api.OK {
					t.Errorf("the first %d of %d, need %d: %d", have, n, need, int(err))
				}
				if err := Check(k, n, body, high, need); err != api.OK {
					t.Errorf("the last %d of %d, need %d: %d", have, n, need, int(err))
				}
			}
			if err := Check(k, n, body, low, have+1); have < n && err != api.ErrSigns {
				t.Errorf("the first %d of %d, need %d: %d, want ErrSigns", have, n, have+1, int(err))
			}
		}
	}
}

func TestCheckWithMoreOrFewerKeysThanNodes(t *testing.T) {
	few := seal.Derive("seed", 2)
	many := seal.Derive("seed", 12)
	if err := Check(few, 4, body, rightSigns(t, few, 0, 1), 2); err != api.OK {
		t.Errorf("two keys, two signs: %d", int(err))
	}
	if err := Check(many, 7, body, rightSigns(t, many, 0, 3, 6), 3); err != api.OK {
		t.Errorf("keys of clients too: %d", int(err))
	}
	if err := Check(many, 7, body, rightSigns(t, many, 0, 3, 7), 3); err != api.ErrSigns {
		t.Errorf("a client's sign: %d, want ErrSigns", int(err))
	}
	without := []api.Sign{{Node: 2}}
	if err := Check(few, 4, body, without, 1); err != api.ErrSigns {
		t.Errorf("a node without a key, a zero tag: %d, want ErrSigns", int(err))
	}
	if err := Check(few, 4, body, rightSigns(t, many, 0, 1, 2), 3); err != api.ErrSigns {
		t.Errorf("a node without a key, the tag it would have: %d, want ErrSigns", int(err))
	}
}

func TestCheckRefuses(t *testing.T) {
	k := seal.Derive("seed", 12)
	other := seal.Derive("another seed", 12)
	of := func(nodes ...int) []api.Sign { return rightSigns(t, k, nodes...) }
	with := func(at, node int, l []api.Sign) []api.Sign {
		l[at].Node = node
		return l
	}
	turned := of(0, 1, 2)
	turned[0].Tag, turned[1].Tag = turned[1].Tag, turned[0].Tag
	for _, x := range []struct {
		name    string
		n, need int
		l       []api.Sign
	}{
		{"none", 4, 1, nil},
		{"empty", 4, 1, []api.Sign{}},
		{"one too few", 4, 3, of(0, 1)},
		{"more than n, all right", 4, 3, of(0, 1, 2, 3, 4)},
		{"more than n, one twice", 4, 3, of(0, 1, 2, 3, 3)},
		{"falling at once", 4, 2, of(1, 0)},
		{"falling at the end", 4, 3, of(0, 2, 1)},
		{"twice at once", 4, 2, of(0, 0)},
		{"twice at the end", 7, 3, of(0, 4, 4)},
		{"above the first one, not above the one ahead", 7, 3, of(0, 5, 3)},
		{"Node n", 4, 3, of(0, 1, 4)},
		{"Node n alone", 4, 1, of(4)},
		{"Node above n", 7, 3, of(0, 1, 9)},
		{"Node -1", 4, 2, with(0, -1, of(0, 1))},
		{"Node of the least int", 4, 2, with(0, math.MinInt, of(0, 1))},
		{"Node of the greatest int", 4, 2, with(1, math.MaxInt, of(0, 1))},
		{"a tag of another node", 4, 2, with(1, 2, of(0, 1))},
		{"two tags turned about", 4, 3, turned},
		{"tags by other keys", 4, 3, rightSigns(t, other, 0, 1, 2)},
		{"zero tags", 4, 3, []api.Sign{{Node: 0}, {Node: 1}, {Node: 2}}},
		{"a wrong one beyond need", 4, 2, append(of(0, 1), api.Sign{Node: 2})},
		{"a wrong one ahead of enough", 4, 2, append([]api.Sign{{Node: 0}}, of(1, 2, 3)...)},
	} {
		if err := Check(k, x.n, body, x.l, x.need); err != api.ErrSigns {
			t.Errorf("%s: %d, want ErrSigns", x.name, int(err))
		}
	}
	for _, b := range []string{"", body + "x", body[1:], "another"} {
		if err := Check(k, 4, b, of(0, 1, 2), 3); err != api.ErrSigns {
			t.Errorf("body %q: %d, want ErrSigns", b, int(err))
		}
	}
}

func TestCheckRefusesEachByteOfATag(t *testing.T) {
	k := seal.Derive("seed", 4)
	for place := range 3 {
		for at := range len(api.Tag{}) {
			l := rightSigns(t, k, 0, 1, 3)
			l[place].Tag[at] ^= 0x10
			if err := Check(k, 4, body, l, 1); err != api.ErrSigns {
				t.Errorf("sign %d with another byte %d: %d, want ErrSigns", place, at, int(err))
			}
		}
	}
}

func TestCheckArguments(t *testing.T) {
	k := seal.Derive("seed", 70)
	l := rightSigns(t, k, 0, 1, 2)
	for _, n := range []int{math.MinInt, -2, -1, 0, 1, 2, 3, 5, 6, 63, 65, 67, math.MaxInt} {
		if err := Check(k, n, body, l, 3); err != api.ErrArg {
			t.Errorf("n of %d: %d, want ErrArg", n, int(err))
		}
	}
	for _, need := range []int{math.MinInt, -1, 0, 5, 6, math.MaxInt} {
		if err := Check(k, 4, body, l, need); err != api.ErrArg {
			t.Errorf("need of %d: %d, want ErrArg", need, int(err))
		}
	}
	all := rightSigns(t, k, 0, 1, 2, 3)
	for _, need := range []int{1, 4} {
		if err := Check(k, 4, body, all, need); err != api.OK {
			t.Errorf("need of %d: %d", need, int(err))
		}
	}
}

func TestCheckErrorsInOrder(t *testing.T) {
	k := seal.Derive("seed", 8)
	wrong := []api.Sign{{Node: 3}, {Node: -1}}
	for name, none := range map[string]*seal.Keys{"nil": nil, "plain": {}} {
		for _, x := range []struct {
			n, need int
			l       []api.Sign
		}{{4, 1, rightSigns(t, k, 0)}, {5, 1, nil}, {4, 0, nil}, {4, 5, wrong}, {4, 3, nil}, {4, 1, wrong}, {4, 1, []api.Sign{{}}}} {
			if err := Check(none, x.n, body, x.l, x.need); err != api.ErrNil {
				t.Errorf("%s keys, n %d, need %d: %d, want ErrNil", name, x.n, x.need, int(err))
			}
		}
	}
	for _, x := range []struct {
		n, need int
		l       []api.Sign
	}{{5, 1, nil}, {5, 1, wrong}, {4, 0, nil}, {4, 0, wrong}, {4, 5, nil}, {4, 5, rightSigns(t, k, 0, 1, 2, 3, 4)}, {3, 0, wrong}} {
		if err := Check(k, x.n, body, x.l, x.need); err != api.ErrArg {
			t.Errorf("n %d, need %d, %d signs: %d, want ErrArg", x.n, x.need, len(x.l), int(err))
		}
	}
}

func TestCheckLeavesItsArgument(t *testing.T) {
	k := seal.Derive("seed", 4)
	whole := append(rightSigns(t, k, 0, 2, 3), sign(1, 7), sign(0, 7))
	was := slices.Clone(whole)
	for range 2 {
		if err := Check(k, 4, body, whole[:3], 3); err != api.OK {
			t.Errorf("a list with wrong ones in its spare room: %d", int(err))
		}
		if err := Check(k, 4, body, whole[:2], 3); err != api.ErrSigns {
			t.Errorf("a list whose spare room has what it needs: %d, want ErrSigns", int(err))
		}
		Check(k, 4, body, whole[:4], 3)
	}
	if !slices.Equal(whole, was) {
		t.Errorf("what was handed in is now %v", whole)
	}
}

// P5.4

func TestNth(t *testing.T) {
	for _, x := range []struct {
		l    []int
		want []int // from the first one on
	}{
		{nil, nil},
		{[]int{}, nil},
		{[]int{7}, []int{7}},
		{[]int{3, 9, 5}, []int{9, 5, 3}},
		{[]int{3, 9, 5, 9}, []int{9, 9, 5, 3}},
		{[]int{4, 4, 4}, []int{4, 4, 4}},
		{[]int{1, 2, 3, 4}, []int{4, 3, 2, 1}},
		{[]int{4, 3, 2, 1}, []int{4, 3, 2, 1}},
		{[]int{-5, 0, -1}, []int{0, -1, -5}},
		{[]int{math.MinInt, math.MaxInt, 0, math.MinInt}, []int{math.MaxInt, 0, math.MinInt, math.MinInt}},
	} {
		was := slices.Clone(x.l)
		for i, want := range x.want {
			if got := Nth(x.l, i+1); got != want {
				t.Errorf("Nth(%v, %d): %d, want %d", x.l, i+1, got, want)
			}
		}
		for _, i := range []int{math.MinInt, -1, 0, len(x.l) + 1, len(x.l) + 2, math.MaxInt} {
			if got := Nth(x.l, i); got != 0 {
				t.Errorf("Nth(%v, %d): %d, want 0", x.l, i, got)
			}
		}
		if !slices.Equal(x.l, was) {
			t.Errorf("what was handed in is now %v", x.l)
		}
	}
}

func TestNthLeavesSpareRoom(t *testing.T) {
	whole := []int{3, 9, 5, 100, 1}
	l := whole[:3]
	if got := Nth(l, 1); got != 9 {
		t.Errorf("Nth(%v, 1): %d, want 9", l, got)
	}
	if got := Nth(l, 4); got != 0 {
		t.Errorf("Nth(%v, 4): %d, want 0", l, got)
	}
	if !slices.Equal(whole, []int{3, 9, 5, 100, 1}) {
		t.Errorf("what was handed in is now %v", whole)
	}
}

// P5.5

func TestTwoQuorumsMeet(t *testing.T) {
	for _, n := range []int{4, 7, 10} {
		least := n
		var sets []uint
		for set := range uint(1) << n {
			if bits.OnesCount(set) == Most(n) {
				sets = append(sets, set)
			}
		}
		for _, a := range sets {
			for _, b := range sets {
				least = min(least, bits.OnesCount(a&b))
			}
		}
		if len(sets) == 0 || least < Some(n) {
			t.Errorf("of %d: two of %d sets have %d in common, want %d", n, len(sets), least, Some(n))
		}
	}
	// The two that have least in common are the first and the last ones.
	for _, n := range goodNumbers() {
		first, last := upTo(n)[:Most(n)], upTo(n)[n-Most(n):]
		common := 0
		for _, node := range first {
			if slices.Contains(last, node) {
				common++
			}
		}
		if common < Some(n) {
			t.Errorf("of %d: %d in common, want %d", n, common, Some(n))
		}
	}
}

// P5.6

// eachOrder hands out a list in all its orders.
func eachOrder(l []int, done int, yield func([]int)) {
	if done == len(l) {
		yield(l)
		return
	}
	for i := done; i < len(l); i++ {
		l[done], l[i] = l[i], l[done]
		eachOrder(l, done+1, yield)
		l[done], l[i] = l[i], l[done]
	}
}

func TestWhatAddGatheredIsTaken(t *testing.T) {
	k := seal.Derive("seed", 7)
	all := rightSigns(t, k, upTo(7)...)
	eachOrder([]int{0, 2, 3, 5, 6}, 0, func(order []int) {
		var l []api.Sign
		for i, node := range order {
			l = Add(l, all[node])
			// Met again, it must change nothing.
			l = Add(l, all[order[i/2]])
		}
		for need := 1; need <= 7; need++ {
			want := api.OK
			if need > len(order) {
				want = api.ErrSigns
			}
			if err := Check(k, 7, body, l, need); err != want {
				t.Errorf("gathered in the order %v: need %d: %d, want %d", order, need, int(err), int(want))
			}
		}
		if got := Nodes(l); !slices.Equal(got, []int{0, 2, 3, 5, 6}) {
			t.Errorf("gathered in the order %v: %v", order, got)
		}
	})
}

func TestGatheredOfAllNodes(t *testing.T) {
	k := seal.Derive("seed", 64)
	all := rightSigns(t, k, upTo(64)...)
	for _, step := range []int{1, 5, 27, 63} {
		var l []api.Sign
		for i := range 64 {
			l = Add(l, all[(i*step+11)%64])
		}
		if err := Check(k, 64, body, l, 64); err != api.OK {
			t.Errorf("gathered by steps of %d: %d", step, int(err))
		}
	}
}
