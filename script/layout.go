package script

import (
	"raddle/api"
	"raddle/cluster"
)

// kinds is how many kinds of steps there are.
const kinds = cluster.Round + 1

// layout is what a kind of step has: how many bytes each of its numbers has, and the number that tells how many Data has; 0 is none.
type layout struct {
	node, n, m, length int
	most               int // how many Data has at most
}

// layoutOf tells what a kind has, which must be one.
func layoutOf(kind int) layout {
	all := [kinds]layout{
		cluster.Deliver: {n: 2},
		cluster.Drop:    {n: 2},
		cluster.Copy:    {n: 2},
		cluster.Tick:    {node: 1},
		cluster.Submit:  {node: 1, n: 1, m: 1, length: 1, most: api.MaxData},
		cluster.Crash:   {node: 1, m: 2},
		cluster.Arm:     {node: 1, n: 1, m: 2},
		cluster.Start:   {node: 1},
		cluster.Inject:  {node: 1, n: 1, length: 2, most: 1<<16 - 1},
		cluster.Replay:  {node: 1, n: 2},
		cluster.Round:   {},
	}
	return all[kind]
}

// read reads a step, by what reads a number of so many bytes, and so much text.
func read(number func(size int) int, text func(many int) string) cluster.Act {
	kind := number(1) % kinds
	has := layoutOf(kind)
	a := cluster.Act{Kind: kind}
	a.Node = number(has.node)
	a.N = number(has.n)
	a.M = number(has.m)
	a.Data = text(number(has.length) % (has.most + 1))
	return a
}

// put lays a step's bytes, which may be, behind others.
func put(b []byte, a cluster.Act) []byte {
	has := layoutOf(a.Kind)
	number := func(n, size int) {
		for i := range size {
			b = append(b, byte(n>>(8*(size-1-i))))
		}
	}
	number(a.Kind, 1)
	number(a.Node, has.node)
	number(a.N, has.n)
	number(a.M, has.m)
	number(len(a.Data), has.length)
	return append(b, a.Data...)
}

// size tells how many bytes a step has, which may be.
func size(a cluster.Act) int {
	has := layoutOf(a.Kind)
	return 1 + has.node + has.n + has.m + has.length + len(a.Data)
}

// mayBe tells whether there are bytes of a step.
func mayBe(a cluster.Act) bool {
	if a.Kind < 0 || a.Kind >= kinds {
		return false
	}
	has := layoutOf(a.Kind)
	return fits(a.Node, has.node) && fits(a.N, has.n) && fits(a.M, has.m) && len(a.Data) <= has.most
}

// fits tells whether a number has room in so many bytes; in none there is room for 0 alone.
func fits(n, size int) bool {
	return n >= 0 && n < 1<<(8*size)
}
