package cluster

import (
	"raddle/api"
	"raddle/envelope"
	"raddle/net"
	"raddle/node"
	"raddle/request"
)

// deed is what a kind of act does.
type deed func(c *Cluster, a Act) api.Errno

// deedOf tells what a kind of act does; nil, if there is no such kind.
func deedOf(kind int) deed {
	deeds := [...]deed{
		Deliver: (*Cluster).deliver,
		Drop:    (*Cluster).drop,
		Copy:    (*Cluster).copy,
		Tick:    (*Cluster).tick,
		Submit:  (*Cluster).submit,
		Crash:   (*Cluster).crash,
		Arm:     (*Cluster).arm,
		Start:   (*Cluster).start,
		Inject:  (*Cluster).inject,
		Replay:  (*Cluster).replay,
		Round:   (*Cluster).round,
	}
	if kind < 0 || kind >= len(deeds) {
		return nil
	}
	return deeds[kind]
}

// Do does an act.
func (c *Cluster) Do(a Act) api.Errno {
	if !c.isMade() {
		return api.ErrNil
	}
	do := deedOf(a.Kind)
	if do == nil {
		return api.ErrStep
	}
	c.acts.Add(1)
	return do(c, a)
}

// deliver takes a packet first: what comes to a node that is down is lost.
func (c *Cluster) deliver(a Act) api.Errno {
	p, err := c.net.Take(a.N)
	if err != api.OK {
		return err
	}
	return c.hear(p)
}

func (c *Cluster) drop(a Act) api.Errno {
	_, err := c.net.Take(a.N)
	return err
}

func (c *Cluster) copy(a Act) api.Errno {
	p, err := c.net.Look(a.N)
	if err != api.OK {
		return err
	}
	return c.hear(p)
}

func (c *Cluster) tick(a Act) api.Errno {
	switch {
	case !c.isNode(a.Node):
		return api.ErrArg
	case c.machines[a.Node].isDown():
		return api.ErrDown
	}
	return c.tickOf(a.Node)
}

func (c *Cluster) submit(a Act) api.Errno {
	if !c.isNode(a.Node) {
		return api.ErrArg
	}
	r, err := c.made(a)
	if err != api.OK {
		return err
	}
	id, which := c.config.Nodes+r.Client, pair{r.Client, r.Num}
	first, there := c.asked[which]
	switch {
	case !there:
		c.asked[which] = asked{r.Data}
	case c.honest[id] && first.data != r.Data:
		return api.ErrOther
	}
	c.net.Note(envelope.Claim{ID: id, Body: request.Body(r), Tag: r.Tag})
	m := c.machines[a.Node]
	if m.isDown() {
		return api.ErrDown
	}
	return m.node.Submit(r)
}

// made makes the request of an act. A client beyond the config's is refused here: request would tell of a key that is missing.
func (c *Cluster) made(a Act) (api.Request, api.Errno) {
	if a.N < 0 || a.N >= c.config.Clients {
		return api.Request{}, api.ErrRequest
	}
	return request.Make(c.ring.keys(), c.config.Nodes, a.N, a.M, a.Data)
}

// crash asks for power alone: a node that is stuck can still lose what is not sure.
func (c *Cluster) crash(a Act) api.Errno {
	switch {
	case !c.isNode(a.Node):
		return api.ErrArg
	case !c.machines[a.Node].tape.On():
		return api.ErrDown
	}
	return c.machines[a.Node].tape.Fail(a.M)
}

func (c *Cluster) arm(a Act) api.Errno {
	switch {
	case !c.isNode(a.Node):
		return api.ErrArg
	case c.machines[a.Node].isDown():
		return api.ErrDown
	}
	return c.machines[a.Node].tape.Arm(a.N, a.M)
}

func (c *Cluster) start(a Act) api.Errno {
	switch {
	case !c.isNode(a.Node):
		return api.ErrArg
	case !c.machines[a.Node].isDown():
		return api.ErrThere
	}
	m := c.machines[a.Node]
	if err := m.tape.Power(); err != api.OK {
		return err
	}
	return m.start(c.config, c.ring.keys(), a.Node)
}

func (c *Cluster) inject(a Act) api.Errno {
	switch {
	case !c.isNode(a.Node) || c.honest[a.Node] || c.forges(a.Data):
		return api.ErrRights
	case !c.isNode(a.N):
		return api.ErrArg
	}
	x, err := envelope.Seal(c.ring.keys(), a.Node, a.Data)
	if err != api.OK {
		return err
	}
	return c.net.Send(a.N, x)
}

func (c *Cluster) replay(a Act) api.Errno {
	x, err := c.net.Past(a.N)
	switch {
	case err != api.OK:
		return err
	case !c.isNode(a.Node):
		return api.ErrArg
	}
	return c.net.Send(a.Node, x)
}

// round takes all packets ahead of the first one that is heard: what is said in a round comes in the next one.
func (c *Cluster) round(Act) api.Errno {
	var way []net.Packet
	for range c.net.Len() {
		p, err := c.net.Take(0)
		if err != api.OK {
			return err
		}
		way = append(way, p)
	}
	for _, p := range way {
		if c.Honest(p.X.From) && c.Honest(p.To) {
			// What is refused is what a node does not need, or comes to one that is down.
			c.hear(p)
		}
	}
	for i := range c.machines {
		if c.honest[i] && !c.machines[i].isDown() {
			c.tickOf(i)
		}
	}
	return api.OK
}

// hear lets a packet's node hear it.
func (c *Cluster) hear(p net.Packet) api.Errno {
	m := c.machines[p.To]
	if m.isDown() {
		return api.ErrDown
	}
	out, err := m.node.Hear(p.X)
	c.goOut(p.To, out)
	return err
}

// tickOf lets a node tick.
func (c *Cluster) tickOf(i int) api.Errno {
	out, err := c.machines[i].node.Tick()
	// Beside ErrEnd there is something to tell as well.
	c.goOut(i, out)
	return err
}

// goOut does with what a node told what is to be done. A packet for which there is no room is lost.
func (c *Cluster) goOut(from int, out node.Out) {
	for _, x := range out.All {
		for to := range c.machines {
			if to != from {
				c.net.Send(to, x)
			}
		}
	}
	for _, x := range out.Direct {
		c.net.Send(out.To, x)
	}
	m := c.machines[from]
	m.log = append(m.log, out.Delivered...)
}
