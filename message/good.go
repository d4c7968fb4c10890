package message

import "raddle/api"

// fieldsMay tells whether all that a message has keeps to its bounds. What a kind does not have is zero, which does, but for a vote, whose Kind is never 0.
func fieldsMay(m api.Msg) bool {
	switch {
	case !within(m.Epoch, api.MaxEpoch) || !within(m.Leader, api.MaxNodes):
		return false
	case !within(m.View, api.MaxNum) || !within(m.Slot, api.MaxNum):
		return false
	case m.Kind == api.MsgVote && !voteMay(m.Vote):
		return false
	case m.Kind == api.MsgEntry && !certMay(m.Cert):
		return false
	}
	return batchMay(m.Batch) && changeMay(m.Change) && allMay(m.News, api.MaxNodes, envelopeMay) &&
		len(m.State) <= api.MaxBody && signsMay(m.Signs)
}

// within tells whether a number is from 0 to the greatest one.
func within(n, greatest int) bool {
	return n >= 0 && n <= greatest
}

// allMay tells whether a list has no more than most, each of which may be.
func allMay[T any](l []T, most int, may func(T) bool) bool {
	if len(l) > most {
		return false
	}
	for _, x := range l {
		if !may(x) {
			return false
		}
	}
	return true
}

func batchMay(b api.Batch) bool {
	// Requests beside Noop have no bytes, so that they would be lost.
	if b.Noop {
		return len(b.Requests) == 0
	}
	return allMay(b.Requests, api.MaxRequests, requestMay)
}

func requestMay(r api.Request) bool {
	return within(r.Client, api.MaxClients) && within(r.Num, api.MaxNum) && len(r.Data) <= api.MaxData
}

func voteMay(v api.Vote) bool {
	if v.Kind != api.Prepare && v.Kind != api.Commit {
		return false
	}
	return within(v.Epoch, api.MaxEpoch) && within(v.View, api.MaxNum) && within(v.Slot, api.MaxNum)
}

func certMay(c api.Cert) bool {
	return voteMay(c.Vote) && signsMay(c.Signs)
}

func signsMay(l []api.Sign) bool {
	return allMay(l, api.MaxNodes, func(s api.Sign) bool { return within(s.Node, api.MaxNodes) })
}

func changeMay(c api.Change) bool {
	if !within(c.Epoch, api.MaxEpoch) || !within(c.Leader, api.MaxNodes) || !within(c.View, api.MaxNum) {
		return false
	}
	return allMay(c.Held, api.MaxSlots, func(h api.Held) bool { return batchMay(h.Batch) && certMay(h.Cert) })
}

func envelopeMay(e api.Envelope) bool {
	return within(e.From, api.MaxNodes) && len(e.Body) <= api.MaxBody
}
