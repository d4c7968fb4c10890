package cluster

import (
	"slices"
	"sync"

	"raddle/api"
	"raddle/node"
	"raddle/seal"
	"raddle/tape"
)

// ring has the keys of all identities, which are made when they are asked for first.
type ring struct {
	seed string
	many int
	once sync.Once
	made *seal.Keys
}

func (r *ring) keys() *seal.Keys {
	r.once.Do(func() { r.made = seal.Derive(r.seed, r.many) })
	return r.made
}

// machine is a node on its tape, and what it delivered.
type machine struct {
	tape *tape.Tape
	node *node.Node
	log  []api.Delivered // by Index, rising; what was in a state that it took over it did not deliver
}

func newMachine(c api.Config, k *seal.Keys, me int) (*machine, api.Errno) {
	m := &machine{tape: tape.New(node.Bound(c))}
	return m, m.start(c, k, me)
}

// start opens the node on its tape. One that can't be opened is down: the one from ahead has no power any more, or is stuck.
func (m *machine) start(c api.Config, k *seal.Keys, me int) api.Errno {
	n, err := node.Open(c, k, me, m.tape)
	if err != api.OK {
		return err
	}
	m.node = n
	// All that was delivered behind the state is told by the node itself: it may be less than it was, or more, if power failed in the midst of a call.
	begun := n.State().Count
	m.log = slices.DeleteFunc(m.log, func(d api.Delivered) bool { return d.Index > begun })
	m.log = append(m.log, n.Log()...)
	return api.OK
}

// isDown tells whether the node can do nothing.
func (m *machine) isDown() bool {
	return !m.tape.On() || !m.node.On()
}

func (m *machine) told() []api.Delivered {
	return slices.Clone(m.log)
}
