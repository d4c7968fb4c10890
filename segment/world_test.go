package segment

import (
	"slices"
	"testing"

	"raddle/api"
	"raddle/batch"
	"raddle/change"
	"raddle/envelope"
	"raddle/epoch"
	"raddle/message"
	"raddle/request"
	"raddle/seal"
	"raddle/window"
)

// world is what all nodes of a test agree on. Of four nodes with two slots each leader 1's slots are 10 and 14, in epoch 3 from slot 9 on.
type world struct {
	t       testing.TB
	k       *seal.Keys
	e       epoch.Epoch
	leader  int
	clients []api.Window
}

func config() api.Config {
	return api.Config{Nodes: 4, Clients: 2, Window: 40, Buckets: 4, Cap: 4, Slots: 2, Requests: 2, Timeout: 12, Last: 9}
}

// four is the world that most tests run in.
func four(t testing.TB) world {
	t.Helper()
	return worldOf(t, config())
}

func worldOf(t testing.TB, c api.Config) world {
	t.Helper()
	e, err := epoch.New(c, 3, 9, nil)
	if err != api.OK {
		t.Fatal(int(err))
	}
	w := world{t: t, k: seal.Derive("k", c.Nodes+c.Clients), e: e, leader: 1}
	for range c.Clients {
		w.clients = append(w.clients, window.New())
	}
	return w
}

// node is a new segment of a node.
func (w world) node(me int) *Segment {
	w.t.Helper()
	s, err := New(w.k, w.e, me, w.leader, w.clients)
	if err != api.OK {
		w.t.Fatal(int(err))
	}
	return s
}

// request is one with that place among those that the leader may propose: an even one is client 0's, an odd one client 1's.
func (w world) request(place int) api.Request {
	w.t.Helper()
	client, left := place%2, place/2
	for num := 1; ; num++ {
		if epoch.Bucket(w.e, client, num) != w.leader {
			continue
		}
		if left == 0 {
			r, err := request.Make(w.k, w.e.Config.Nodes, client, num, "data")
			if err != api.OK {
				w.t.Fatal(int(err))
			}
			return r
		}
		left--
	}
}

// asks is a batch of those requests.
func (w world) asks(places ...int) api.Batch {
	w.t.Helper()
	var b api.Batch
	for _, p := range places {
		b.Requests = append(b.Requests, w.request(p))
	}
	return b
}

func (w world) vote(kind, view, slot int, b api.Batch) api.Vote {
	return api.Vote{Kind: kind, Epoch: w.e.Number, View: view, Slot: slot, Digest: batch.Digest(b)}
}

func (w world) prepare(view, slot int, b api.Batch) string {
	return message.Vote(w.vote(api.Prepare, view, slot, b))
}

func (w world) commit(view, slot int, b api.Batch) string {
	return message.Vote(w.vote(api.Commit, view, slot, b))
}

func (w world) propose(slot int, b api.Batch) string {
	return w.bytes(api.Msg{Kind: api.MsgPropose, Epoch: w.e.Number, Slot: slot, Batch: b})
}

func (w world) bytes(m api.Msg) string {
	w.t.Helper()
	body, err := message.Encode(m)
	if err != api.OK {
		w.t.Fatalf("%v: %d", m, int(err))
	}
	return body
}

func (w world) cert(kind, view, slot int, b api.Batch, nodes ...int) api.Cert {
	c := api.Cert{Vote: w.vote(kind, view, slot, b)}
	for _, n := range nodes {
		tag, _ := w.k.Sign(n, message.Vote(c.Vote))
		c.Signs = append(c.Signs, api.Sign{Node: n, Tag: tag})
	}
	return c
}

func (w world) held(view, slot int, b api.Batch, nodes ...int) api.Held {
	return api.Held{Batch: b, Cert: w.cert(api.Prepare, view, slot, b, nodes...)}
}

func (w world) change(view int, l ...api.Held) string {
	return change.Body(api.Change{Epoch: w.e.Number, Leader: w.leader, View: view, Held: l})
}

func (w world) seal(from int, body string) api.Envelope {
	w.t.Helper()
	x, err := envelope.Seal(w.k, from, body)
	if err != api.OK {
		w.t.Fatal(int(err))
	}
	return x
}

// begins is the MsgNew of a view with those nodes' changes, which are all the same.
func (w world) begins(view int, body string, nodes ...int) string {
	w.t.Helper()
	var news []api.Envelope
	for _, n := range nodes {
		news = append(news, w.seal(n, body))
	}
	return w.bytes(api.Msg{Kind: api.MsgNew, Epoch: w.e.Number, Leader: w.leader, View: view, News: news})
}

func (w world) primary(view int) int {
	return epoch.Primary(w.e, w.leader, view)
}

func (w world) entry(view, slot int, b api.Batch, nodes ...int) string {
	return w.bytes(api.Msg{Kind: api.MsgEntry, Batch: b, Cert: w.cert(api.Commit, view, slot, b, nodes...)})
}

// tells lets a segment hear a body of a node's, sealed as it must be.
func (w world) tells(s *Segment, from int, body string) (api.Said, api.Errno) {
	w.t.Helper()
	x := w.seal(from, body)
	m, err := envelope.Open(w.k, w.e.Config.Nodes, x)
	if err != api.OK {
		w.t.Fatalf("%x: %d", body, int(err))
	}
	return s.Hear(m, x)
}

// hears is tells of what must be taken.
func (w world) hears(s *Segment, from int, body string) api.Said {
	w.t.Helper()
	said, err := w.tells(s, from, body)
	if err != api.OK {
		w.t.Fatalf("%d's %x: %d", from, body, int(err))
	}
	return said
}

// refused tests that a segment refuses a body, and has not changed.
func (w world) refused(name string, s *Segment, from int, body string, want api.Errno) {
	w.t.Helper()
	before := look(s)
	said, err := w.tells(s, from, body)
	if err != want || len(said.Recs)+len(said.Bodies) > 0 {
		w.t.Errorf("%s: %v %d, want %d", name, said, int(err), int(want))
	}
	if !before.same(look(s)) {
		w.t.Errorf("%s: it is refused, and changed something", name)
	}
}

// accepted is the record of a batch that was accepted, and so on.
func accepted(slot, view int, b api.Batch) api.Rec {
	return api.Rec{Kind: api.RecAccept, Slot: slot, View: view, Batch: b}
}

func holds(h api.Held) api.Rec {
	return api.Rec{Kind: api.RecHeld, Batch: h.Batch, Cert: h.Cert}
}

func (w world) goes(view int) api.Rec {
	return api.Rec{Kind: api.RecView, Leader: w.leader, View: view}
}

func decided(b api.Batch, c api.Cert) api.Rec {
	return api.Rec{Kind: api.RecEntry, Batch: b, Cert: c}
}

// saidIs tests what was said: records and bodies, each in their order.
func (w world) saidIs(name string, got api.Said, recs []api.Rec, bodies ...string) {
	w.t.Helper()
	if !slices.EqualFunc(got.Recs, recs, sameRec) {
		w.t.Errorf("%s: records %v, want %v", name, got.Recs, recs)
	}
	if !slices.Equal(got.Bodies, bodies) {
		w.t.Errorf("%s: bodies %x, want %x", name, got.Bodies, bodies)
	}
}

func sameCert(a, b api.Cert) bool {
	return a.Vote == b.Vote && slices.Equal(a.Signs, b.Signs)
}

func sameRec(a, b api.Rec) bool {
	return a.Kind == b.Kind && a.Leader == b.Leader && a.View == b.View && a.Slot == b.Slot && a.State == b.State &&
		batch.Same(a.Batch, b.Batch) && sameCert(a.Cert, b.Cert) && slices.Equal(a.Signs, b.Signs)
}

func sameEntry(a, b api.Entry) bool {
	return a.Slot == b.Slot && batch.Same(a.Batch, b.Batch) && sameCert(a.Cert, b.Cert)
}

// seen is all that a segment tells without being changed.
type seen struct {
	recs    []api.Rec
	again   []string
	next    int
	view    int
	ready   bool
	open    int
	entries []api.Entry
	batches []api.Batch
}

func look(s *Segment) seen {
	x := seen{recs: s.Recs(), again: s.Again(), next: s.Next(), open: s.Open(), batches: s.Batches()}
	x.view, x.ready = s.View()
	for slot := range 40 {
		if e, there := s.Entry(slot); there {
			x.entries = append(x.entries, e)
		}
	}
	return x
}

func (x seen) same(y seen) bool {
	return slices.EqualFunc(x.recs, y.recs, sameRec) && slices.Equal(x.again, y.again) && x.next == y.next && x.view == y.view &&
		x.ready == y.ready && x.open == y.open && slices.EqualFunc(x.entries, y.entries, sameEntry) && slices.EqualFunc(x.batches, y.batches, batch.Same)
}

// quiet tests that so many ticks say nothing.
func (w world) quiet(name string, s *Segment, ticks int) {
	w.t.Helper()
	for i := range ticks {
		if said := s.Tick(); len(said.Recs)+len(said.Bodies) > 0 {
			w.t.Errorf("%s: tick %d said %v", name, i+1, said)
		}
	}
}

// entryIs tests what is decided for a slot.
func (w world) entryIs(name string, s *Segment, slot int, b api.Batch, c api.Cert) {
	w.t.Helper()
	if got, there := s.Entry(slot); !there || !sameEntry(got, api.Entry{Slot: slot, Batch: b, Cert: c}) {
		w.t.Errorf("%s: slot %d is %v %v", name, slot, got, there)
	}
}

// viewIs tests a segment's view, and whether it is ready.
func (w world) viewIs(name string, s *Segment, view int, ready bool) {
	w.t.Helper()
	if v, r := s.View(); v != view || r != ready {
		w.t.Errorf("%s: view %d %v, want %d %v", name, v, r, view, ready)
	}
}
