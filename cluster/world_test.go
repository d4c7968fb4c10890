package cluster

import (
	"fmt"
	"math"
	"strings"
	"testing"

	"raddle/api"
	"raddle/batch"
	"raddle/envelope"
	"raddle/message"
	"raddle/net"
	"raddle/request"
	"raddle/seal"
	"raddle/state"
)

// world is a cluster, and the keys of all in it, which the test has beside it: it may try to speak as anybody.
type world struct {
	*Cluster
	t testing.TB
	k *seal.Keys
}

func config() api.Config {
	return api.Config{Nodes: 4, Clients: 3, Window: 8, Buckets: 4, Cap: 4, Slots: 1, Requests: 2, Timeout: 12, Penalty: 1, Last: 50}
}

// conf is four nodes, of whom 2 is faulty, and three clients, of whom 2 is a liar.
func conf() Conf {
	return Conf{Config: config(), Seed: "seed", Faulty: []int{2}, Liars: []int{2}}
}

func begun(t testing.TB, c Conf) *world {
	t.Helper()
	all, err := New(c)
	if err != api.OK {
		t.Fatalf("New: %d", int(err))
	}
	return &world{Cluster: all, t: t, k: seal.Derive(c.Seed, c.Config.Nodes+c.Config.Clients)}
}

// do does an act, which must be answered so.
func (w *world) do(a Act, want api.Errno) {
	w.t.Helper()
	if err := w.Do(a); err != want {
		w.t.Errorf("%+v: %d, want %d", a, int(err), int(want))
	}
}

// refuses tests that an act is answered so, and that nothing changes by it.
func (w *world) refuses(a Act, want api.Errno) {
	w.t.Helper()
	was := w.seen()
	w.do(a, want)
	if got := w.seen(); got != was {
		w.t.Errorf("%+v changes\n%s\ninto\n%s", a, was, got)
	}
}

func (w *world) rounds(many int) {
	w.t.Helper()
	for range many {
		w.do(Act{Kind: Round}, api.OK)
	}
}

// tickAll lets all nodes tick, and all be heard that was said by then.
func (w *world) tickAll() {
	w.t.Helper()
	for i := range w.config.Nodes {
		w.Do(Act{Kind: Tick, Node: i})
	}
	w.hearAll()
}

// hearAll delivers all that is on its way now.
func (w *world) hearAll() {
	for range w.Len() {
		w.Do(Act{Kind: Deliver})
	}
}

// dropAll lets go all that is on its way.
func (w *world) dropAll() {
	w.t.Helper()
	for range w.Len() {
		w.do(Act{Kind: Drop, N: w.Len() - 1}, api.OK)
	}
	if w.Len() > 0 {
		w.t.Fatal("packets stay")
	}
}

// ask submits a request to all nodes, each of whom must take it.
func (w *world) ask(client, num int, data string) {
	w.t.Helper()
	for i := range w.config.Nodes {
		w.do(Act{Kind: Submit, Node: i, N: client, M: num, Data: data}, api.OK)
	}
}

// way are all packets that are on their way.
func (w *world) way() []net.Packet {
	var out []net.Packet
	for i := range w.net.Len() {
		p, _ := w.net.Look(i)
		out = append(out, p)
	}
	return out
}

// toldOf is all that can be seen of a node, its tape and its log.
func (w *world) toldOf(i int) string {
	waiting, kept, bytes, rejects := w.Sizes(i)
	ops, fails := w.machines[i].tape.Counts()
	return fmt.Sprint(i, w.On(i), w.State(i), w.Next(i), w.Count(i), w.Chain(i), w.Log(i), waiting, kept, bytes, rejects, w.Ended(i), w.Honest(i), ops, fails, "\n")
}

// between is all that can be seen beside the nodes.
func (w *world) between() string {
	return fmt.Sprint(w.way(), w.Sent(), w.asked)
}

// seen is all that can be seen of a cluster.
func (w *world) seen() string {
	var b strings.Builder
	for i := range w.config.Nodes {
		b.WriteString(w.toldOf(i))
	}
	b.WriteString(w.between())
	return b.String()
}

func (w *world) bytes(m api.Msg) string {
	w.t.Helper()
	body, err := message.Encode(m)
	if err != api.OK {
		w.t.Fatalf("%+v: %d", m, int(err))
	}
	return body
}

func (w *world) seal(from int, body string) api.Envelope {
	w.t.Helper()
	x, err := envelope.Seal(w.k, from, body)
	if err != api.OK {
		w.t.Fatal(int(err))
	}
	return x
}

func (w *world) request(client, num int, data string) api.Request {
	w.t.Helper()
	r, err := request.Make(w.k, w.config.Nodes, client, num, data)
	if err != api.OK {
		w.t.Fatal(int(err))
	}
	return r
}

func (w *world) signs(body string, nodes ...int) []api.Sign {
	var l []api.Sign
	for _, n := range nodes {
		tag, _ := w.k.Sign(n, body)
		l = append(l, api.Sign{Node: n, Tag: tag})
	}
	return l
}

func (w *world) cert(v api.Vote, nodes ...int) api.Cert {
	return api.Cert{Vote: v, Signs: w.signs(message.Vote(v), nodes...)}
}

func (w *world) vote(kind, number, view, slot int, b api.Batch) api.Vote {
	return api.Vote{Kind: kind, Epoch: number, View: view, Slot: slot, Digest: batch.Digest(b)}
}

func (w *world) propose(number, slot int, l ...api.Request) string {
	w.t.Helper()
	return w.bytes(api.Msg{Kind: api.MsgPropose, Epoch: number, Slot: slot, Batch: api.Batch{Requests: l}})
}

func (w *world) status(number, slot int) string {
	w.t.Helper()
	return w.bytes(api.Msg{Kind: api.MsgStatus, Epoch: number, Slot: slot})
}

// second is the state behind a first epoch whose slots all have batches without requests.
func (w *world) second() api.State {
	w.t.Helper()
	first := state.First(w.config)
	l, err := state.Ledger(w.config, first)
	if err != api.OK {
		w.t.Fatal(int(err))
	}
	for !l.Done() {
		l.Put(api.Entry{Slot: l.Next()})
	}
	s, err := state.After(w.config, first, l)
	if err != api.OK {
		w.t.Fatal(int(err))
	}
	return s
}

func wrong() []int {
	return []int{math.MinInt, -2, -1, math.MaxInt - 1, math.MaxInt}
}
