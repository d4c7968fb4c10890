package cluster

import (
	"slices"

	"raddle/api"
	"raddle/envelope"
	"raddle/message"
	"raddle/state"
)

// forges tells whether bytes have a tag in them that an honest identity would have to have made, and has not told anybody.
func (c *Cluster) forges(data string) bool {
	return slices.ContainsFunc(c.claims(data), func(x envelope.Claim) bool {
		return c.isHonest(x.ID) && !c.net.Knows(x) && c.ring.keys().Check(x.ID, x.Body, x.Tag)
	})
}

// isHonest tells whether a number is an honest node's or client's.
func (c *Cluster) isHonest(id int) bool {
	return id >= 0 && id < len(c.honest) && c.honest[id]
}

// claims tells what bytes say that somebody signed, each with what it would have been signed under.
func (c *Cluster) claims(data string) []envelope.Claim {
	m, err := message.Decode(data)
	switch {
	case err != api.OK:
		return nil
	case m.Kind != api.MsgNew:
		return c.flatClaims(m, data)
	}
	// Envelope by envelope: what is within one may be a state, whose signs' body is not theirs.
	var out []envelope.Claim
	for _, x := range m.News {
		out = append(out, envelope.Claim{ID: x.From, Body: x.Body, Tag: x.Tag})
		if inner, err := message.Decode(x.Body); err == api.OK && inner.Kind != api.MsgNew {
			out = append(out, c.flatClaims(inner, x.Body)...)
		}
	}
	return out
}

// flatClaims tells the claims of a message that has no News. Those of a state's signs have no body: it is told by the state.
func (c *Cluster) flatClaims(m api.Msg, data string) []envelope.Claim {
	out := envelope.Claims(c.config.Nodes, data)
	if m.Kind == api.MsgState {
		body := c.markOf(m.State)
		for i := range out {
			out[i].Body = body
		}
	}
	return out
}

// markOf tells what nodes sign under a state; nothing, if the bytes are none.
func (c *Cluster) markOf(text string) string {
	s, err := state.Parse(c.config, text)
	if err != api.OK {
		return ""
	}
	return message.Mark(s.Epoch-1, state.Digest(s))
}
