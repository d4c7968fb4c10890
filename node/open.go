package node

import (
	"raddle/api"
	"raddle/checkpoint"
	"raddle/epoch"
	"raddle/journal"
	"raddle/leaders"
	"raddle/pool"
	"raddle/record"
	"raddle/seal"
	"raddle/state"
	"raddle/tape"
)

// Open opens a node on its tape.
func Open(c api.Config, k *seal.Keys, me int, t *tape.Tape) (*Node, api.Errno) {
	if err := leaders.Good(c); err != api.OK {
		return nil, err
	}
	switch {
	case k.Len() == 0 || !isTape(t):
		return nil, api.ErrNil
	case me < 0 || me >= c.Nodes:
		return nil, api.ErrArg
	}
	j, kept, err := journal.Open(t)
	if err != api.OK {
		return nil, err
	}
	p, err := pool.New(c.Buckets, c.Cap)
	if err != api.OK {
		return nil, err
	}
	n := &Node{config: c, keys: k, me: me, journal: j, pool: p, marks: checkpoint.New(c.Nodes)}
	if !n.load(kept) {
		return nil, api.ErrRecord
	}
	// What is said here goes nowhere: each tick says it again.
	if err := n.closeEpoch(&work{}); err != api.OK {
		return nil, err
	}
	return n, api.OK
}

// isTape tells a tape that a call made from a nil or plain one.
func isTape(t *tape.Tape) bool {
	const noArea = -1
	_, err := t.Read(noArea)
	return err != api.ErrNil
}

// load takes what the journal has; false, if that is not what a node kept.
func (n *Node) load(kept [][]byte) bool {
	var all []api.Rec
	for _, b := range kept {
		r, err := record.Decode(b)
		if err != api.OK {
			return false
		}
		all = append(all, r)
	}
	recs := record.Since(all)
	s, signs := state.First(n.config), []api.Sign(nil)
	if len(recs) > 0 && recs[0].Kind == api.RecState {
		var err api.Errno
		signs = recs[0].Signs
		if s, err = checkpoint.Check(n.keys, n.config, recs[0].State, signs); err != api.OK {
			return false
		}
		recs = recs[1:]
	}
	var err api.Errno
	if n.now, err = newTerm(n.config, n.keys, n.me, s, signs); err != api.OK {
		return false
	}
	return n.loadTerm(recs)
}

// loadTerm takes an epoch's records; false, if a segment refuses one, or it is nobody's.
func (n *Node) loadTerm(recs []api.Rec) bool {
	for _, r := range recs {
		if n.now.segments[n.now.keeper(r)].Load(r) != api.OK {
			return false
		}
	}
	n.deliver(recs, &work{})
	return true
}

// keeper tells the leader whose segment a record is of; -1, if its slot is nobody's.
func (t *term) keeper(r api.Rec) int {
	switch r.Kind {
	case api.RecAccept:
		return epoch.Owner(t.epoch, r.Slot)
	case api.RecView:
		return r.Leader
	}
	return epoch.Owner(t.epoch, r.Cert.Vote.Slot)
}
