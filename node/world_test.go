package node

import (
	"fmt"
	"slices"
	"testing"

	"raddle/api"
	"raddle/batch"
	"raddle/change"
	"raddle/envelope"
	"raddle/epoch"
	"raddle/message"
	"raddle/net"
	"raddle/request"
	"raddle/seal"
	"raddle/state"
	"raddle/tape"
)

// world is a config with its keys, and what a test makes of them. The test has all keys: it may speak as any node.
type world struct {
	t testing.TB
	c api.Config
	k *seal.Keys
}

func config() api.Config {
	return api.Config{Nodes: 4, Clients: 2, Window: 8, Buckets: 4, Cap: 4, Slots: 2, Requests: 2, Timeout: 12, Penalty: 1, Last: 5}
}

func four(t testing.TB) world {
	return worldOf(t, config())
}

func worldOf(t testing.TB, c api.Config) world {
	return world{t: t, c: c, k: seal.Derive("k", c.Nodes+c.Clients)}
}

// disk is a tape with just the room that a node may need.
func (w world) disk() *tape.Tape {
	return tape.New(Bound(w.c))
}

// open opens a node, which must come about.
func (w world) open(me int, t *tape.Tape) *Node {
	w.t.Helper()
	n, err := Open(w.c, w.k, me, t)
	if err != api.OK {
		w.t.Fatalf("Open of %d: %d", me, int(err))
	}
	return n
}

// fresh is a new node on a new tape.
func (w world) fresh(me int) (*Node, *tape.Tape) {
	w.t.Helper()
	t := w.disk()
	return w.open(me, t), t
}

func (w world) bytes(m api.Msg) string {
	w.t.Helper()
	body, err := message.Encode(m)
	if err != api.OK {
		w.t.Fatalf("%v: %d", m, int(err))
	}
	return body
}

func (w world) seal(from int, body string) api.Envelope {
	w.t.Helper()
	x, err := envelope.Seal(w.k, from, body)
	if err != api.OK {
		w.t.Fatal(int(err))
	}
	return x
}

// said is a message of a node.
func (w world) said(from int, m api.Msg) api.Envelope {
	w.t.Helper()
	return w.seal(from, w.bytes(m))
}

func (w world) request(client, num int, data string) api.Request {
	w.t.Helper()
	r, err := request.Make(w.k, w.c.Nodes, client, num, data)
	if err != api.OK {
		w.t.Fatal(int(err))
	}
	return r
}

// first is the first epoch.
func (w world) first() epoch.Epoch {
	w.t.Helper()
	return w.epoch(state.First(w.c))
}

func (w world) epoch(s api.State) epoch.Epoch {
	w.t.Helper()
	e, err := state.Epoch(w.c, s)
	if err != api.OK {
		w.t.Fatal(int(err))
	}
	return e
}

// of is the i-th request of a client, from 0 on, that a leader may propose in an epoch.
func (w world) of(e epoch.Epoch, leader, client, i int) api.Request {
	w.t.Helper()
	for num := 1; ; num++ {
		if epoch.Bucket(e, client, num) != leader {
			continue
		}
		if i == 0 {
			return w.request(client, num, "data")
		}
		i--
	}
}

func (w world) vote(kind, number, view, slot int, b api.Batch) api.Vote {
	return api.Vote{Kind: kind, Epoch: number, View: view, Slot: slot, Digest: batch.Digest(b)}
}

func (w world) propose(number, slot int, b api.Batch) string {
	return w.bytes(api.Msg{Kind: api.MsgPropose, Epoch: number, Slot: slot, Batch: b})
}

func (w world) status(number, slot int) string {
	return w.bytes(api.Msg{Kind: api.MsgStatus, Epoch: number, Slot: slot})
}

func (w world) signs(body string, nodes ...int) []api.Sign {
	var l []api.Sign
	for _, n := range nodes {
		tag, _ := w.k.Sign(n, body)
		l = append(l, api.Sign{Node: n, Tag: tag})
	}
	return l
}

func (w world) cert(v api.Vote, nodes ...int) api.Cert {
	return api.Cert{Vote: v, Signs: w.signs(message.Vote(v), nodes...)}
}

// decided is what tells that a slot was decided, by nodes 0, 1 and 2.
func (w world) decided(number, slot int, b api.Batch) api.Msg {
	return api.Msg{Kind: api.MsgEntry, Batch: b, Cert: w.cert(w.vote(api.Commit, number, 0, slot, b), 0, 1, 2)}
}

// marked is a state with the signs of those who marked it.
func (w world) marked(s api.State, nodes ...int) api.Msg {
	return api.Msg{Kind: api.MsgState, State: state.Bytes(s), Signs: w.signs(message.Mark(s.Epoch-1, state.Digest(s)), nodes...)}
}

// begins is a MsgNew of a view, of the changes of nodes 0, 1 and 2, who hold nothing.
func (w world) begins(number, leader, view int) api.Msg {
	w.t.Helper()
	body := change.Body(api.Change{Epoch: number, Leader: leader, View: view})
	m := api.Msg{Kind: api.MsgNew, Epoch: number, Leader: leader, View: view}
	for node := range 3 {
		m.News = append(m.News, w.seal(node, body))
	}
	return m
}

// later is the state behind an epoch whose slots all have batches without requests.
func (w world) later(s api.State) api.State {
	w.t.Helper()
	l, err := state.Ledger(w.c, s)
	if err != api.OK {
		w.t.Fatal(int(err))
	}
	for !l.Done() {
		l.Put(api.Entry{Slot: l.Next()})
	}
	next, err := state.After(w.c, s, l)
	if err != api.OK {
		w.t.Fatal(int(err))
	}
	return next
}

// hear lets a node hear what must not be refused.
func (w world) hear(n *Node, x api.Envelope) Out {
	w.t.Helper()
	out, err := n.Hear(x)
	if err != api.OK {
		m, _ := message.Decode(x.Body)
		w.t.Fatalf("Hear of %d's %v: %d", x.From, m, int(err))
	}
	return out
}

// tick lets a node tick, which must not be refused.
func (w world) tick(n *Node) Out {
	w.t.Helper()
	out, err := n.Tick()
	if err != api.OK {
		w.t.Fatalf("Tick: %d", int(err))
	}
	return out
}

// finish tells a node, one by one, entries of all slots that its epoch lacks, each a batch without requests.
func (w world) finish(n *Node) (all []api.Envelope) {
	w.t.Helper()
	s := n.State()
	for n.Next() < epoch.End(w.epoch(s)) {
		from := (n.me + 1) % w.c.Nodes
		all = append(all, w.hear(n, w.said(from, w.decided(s.Epoch, n.Next(), api.Batch{}))).All...)
	}
	return all
}

// bodies are what envelopes say, each of which must be sealed by that node.
func (w world) bodies(from int, l []api.Envelope) []string {
	w.t.Helper()
	var out []string
	for _, x := range l {
		if _, err := envelope.Open(w.k, w.c.Nodes, x); err != api.OK || x.From != from {
			w.t.Errorf("an envelope of %d, not of %d: %d", x.From, from, int(err))
		}
		out = append(out, x.Body)
	}
	return out
}

// says tests what a node said to all.
func (w world) says(from int, out Out, want ...string) {
	w.t.Helper()
	if got := w.bodies(from, out.All); !slices.Equal(got, want) {
		w.t.Errorf("node %d says %s, want %s", from, words(got), words(want))
	}
}

// words tells bodies so that they can be read.
func words(bodies []string) string {
	s := ""
	for _, body := range bodies {
		m, err := message.Decode(body)
		s += fmt.Sprintf("\n\t%d %+v", int(err), m)
	}
	return s
}

// seen is all that can be seen of a node and its tape.
func seen(n *Node, t *tape.Tape) string {
	ops, fails := t.Counts()
	return fmt.Sprint(n.State(), n.Signs(), n.Next(), n.Count(), n.Chain(), n.Log(), n.Waiting(), n.Kept(), n.Views(), n.Ended(), n.On(),
		ops, fails, t.Used(), t.Sure(0), t.Sure(1))
}

// refused tests that a node refuses an envelope, and that nothing changes but its count of that.
func (w world) refused(n *Node, t *tape.Tape, x api.Envelope, want api.Errno) {
	w.t.Helper()
	was, many := seen(n, t), n.Rejects()
	out, err := n.Hear(x)
	if err != want || !isNothing(out) {
		w.t.Errorf("Hear: %d, want %d; %v", int(err), int(want), out)
	}
	if got := seen(n, t); got != was {
		w.t.Errorf("what is refused changes\n%s\ninto\n%s", was, got)
	}
	if n.Rejects() != many+1 {
		w.t.Errorf("Rejects is %d behind %d", n.Rejects(), many)
	}
}

func isNothing(out Out) bool {
	return len(out.All) == 0 && len(out.Direct) == 0 && out.To == 0 && len(out.Delivered) == 0
}

// group is all nodes, on a net.
type group struct {
	world
	tapes []*tape.Tape
	nodes []*Node
	net   *net.Net
	log   [][]api.Delivered // what each node told as delivered
}

func (w world) group() *group {
	w.t.Helper()
	g := &group{world: w, net: net.New(w.c.Nodes), log: make([][]api.Delivered, w.c.Nodes)}
	for i := range w.c.Nodes {
		n, t := w.fresh(i)
		g.nodes, g.tapes = append(g.nodes, n), append(g.tapes, t)
	}
	return g
}

// send puts on its way what a node said.
func (g *group) send(from int, out Out) {
	for _, x := range out.All {
		for to := range g.nodes {
			if to != from {
				g.net.Send(to, x)
			}
		}
	}
	for _, x := range out.Direct {
		g.net.Send(out.To, x)
	}
	g.log[from] = append(g.log[from], out.Delivered...)
}

// rounds lets all nodes but some that are away tick, and then hear what is on its way.
func (g *group) rounds(many int, away ...int) {
	g.t.Helper()
	for range many {
		for i, n := range g.nodes {
			if slices.Contains(away, i) {
				continue
			}
			out, err := n.Tick()
			if err != api.OK && err != api.ErrEnd {
				g.t.Fatalf("node %d ticks: %d", i, int(err))
			}
			g.send(i, out)
		}
		for range g.net.Len() {
			p, _ := g.net.Take(0)
			if slices.Contains(away, p.To) {
				continue
			}
			// What comes late or twice is refused.
			out, _ := g.nodes[p.To].Hear(p.X)
			g.send(p.To, out)
		}
	}
}
