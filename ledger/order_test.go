package ledger

import (
	"reflect"
	"slices"
	"testing"

	"raddle/api"
	"raddle/batch"
	"raddle/epoch"
)

// world is a ledger's beginning, and an entry for each slot.
type world struct {
	e       epoch.Epoch
	chain   api.Digest
	count   int
	clients []api.Window
	entries []api.Entry
}

// worlds are epochs of all numbers of nodes; their batches have pairs in common, and clients and numbers that may not be.
func worlds(t *testing.T) []world {
	t.Helper()
	below := chance(21)
	var out []world
	for range 60 {
		c := config()
		c.Nodes = 4 + 3*below(21)
		c.Slots, c.Clients, c.Buckets = 1+below(4), 1+below(8), 1+below(4)
		w := world{e: epoch.Epoch{Config: c, Number: 1 + below(9)}, chain: api.Digest{byte(below(256))}, count: below(1000)}
		for node := range c.Nodes {
			if below(3) > 0 || node == 3 {
				w.e.Leaders = append(w.e.Leaders, node)
			}
		}
		many := len(w.e.Leaders) * c.Slots
		w.e.Start = []int{1, 1 + below(1000), api.MaxNum - many}[below(3)]
		for range c.Clients {
			w.clients = append(w.clients, api.Window{Base: 1 + below(5), Bits: uint64(below(64)) &^ 1})
		}
		for i := range many {
			w.entries = append(w.entries, at(w.e.Start+i, anyBatch(below, c.Clients)))
		}
		out = append(out, w)
	}
	return out
}

func anyBatch(below func(int) int, clients int) api.Batch {
	if below(4) == 0 {
		return batch.None()
	}
	var b api.Batch
	for range below(5) {
		b.Requests = append(b.Requests, api.Request{Client: below(clients+2) - 1, Num: below(90), Data: string(rune('a' + below(26)))})
	}
	return b
}

// ledger is the world's, without entries.
func (w world) ledger(t *testing.T) *Ledger {
	t.Helper()
	return made(t, w.e, w.chain, w.count, w.clients)
}

// byWords is what a ledger tells behind some entries, and all that was told, by the document's words: pairs stand in a set, no window is marked.
func (w world) byWords(there map[int]api.Entry) (face, []api.Delivered) {
	f := face{next: w.e.Start, chain: w.chain, count: w.count, len: len(there)}
	var all []api.Delivered
	done := make([]map[int]bool, len(w.clients))
	for i, x := range w.clients {
		done[i] = map[int]bool{}
		for num := 1; num < x.Base; num++ {
			done[i][num] = true
		}
		for bit := range 64 {
			if x.Bits>>bit&1 == 1 {
				done[i][x.Base+bit] = true
			}
		}
	}
	for ; ; f.next++ {
		x, is := there[f.next]
		if !is {
			break
		}
		f.chain = linked(f.chain, f.next, x.Batch)
		if owner := epoch.Owner(w.e, f.next); x.Batch.Noop && !slices.Contains(f.bad, owner) {
			f.bad = append(f.bad, owner)
		}
		for _, r := range x.Batch.Requests {
			if r.Client < 0 || r.Client >= len(done) || r.Num < 1 || done[r.Client][r.Num] || r.Num >= baseOf(done[r.Client])+64 {
				continue
			}
			done[r.Client][r.Num] = true
			f.count++
			all = append(all, api.Delivered{Index: f.count, Slot: f.next, Request: r})
		}
	}
	slices.Sort(f.bad)
	f.done = f.next == w.e.Start+len(w.entries)
	for _, d := range done {
		x := api.Window{Base: baseOf(d)}
		for bit := range 64 {
			if d[x.Base+bit] {
				x.Bits |= 1 << bit
			}
		}
		f.clients = append(f.clients, x)
	}
	for _, x := range w.entries {
		if _, is := there[x.Slot]; is {
			f.entries = append(f.entries, x)
		}
	}
	return f, all
}

func baseOf(done map[int]bool) int {
	base := 1
	for done[base] {
		base++
	}
	return base
}

// shuffled is a list in another order, with some of it again.
func shuffled(below func(int) int, l []api.Entry) []api.Entry {
	out := slices.Clone(l)
	for range len(l) / 2 {
		out = append(out, l[below(len(l))])
	}
	for i := range out {
		j := i + below(len(out)-i)
		out[i], out[j] = out[j], out[i]
	}
	return out
}

// P21.2 to P21.6, step by step, against the document's words.
func TestByWords(t *testing.T) {
	below := chance(5)
	for i, w := range worlds(t) {
		l := w.ledger(t)
		there := map[int]api.Entry{}
		var all []api.Delivered
		for _, x := range shuffled(below, w.entries) {
			all = append(all, put(t, l, x)...)
			there[x.Slot] = x
			want, wantAll := w.byWords(there)
			if got := faceOf(l); !sameFace(got, want) || !slices.Equal(all, wantAll) {
				t.Fatalf("world %d, slot %d: %+v, not %+v", i, x.Slot, got, want)
			}
		}
		if !l.Done() {
			t.Error(i, l.Next())
		}
	}
}

// P21.4: any order.
func TestAnyOrder(t *testing.T) {
	below := chance(6)
	for i, w := range worlds(t) {
		var first face
		var told []api.Delivered
		for round := range 6 {
			l := w.ledger(t)
			order := w.entries
			if round > 0 {
				order = shuffled(below, w.entries)
			}
			var all []api.Delivered
			for _, x := range order {
				all = append(all, put(t, l, x)...)
			}
			if round == 0 {
				first, told = faceOf(l), all
				continue
			}
			if !sameFace(faceOf(l), first) || !slices.Equal(all, told) {
				t.Fatal(i, round)
			}
		}
	}
}

// P21.4 of one small epoch in each of its orders.
func TestEachOrder(t *testing.T) {
	e := nine()
	e.Config.Slots = 1
	l := []api.Entry{at(9, asks(0, 1, 2)), at(10, batch.None()), at(11, asks(0, 2, 3)), at(12, asks(1, 1))}
	var first face
	var told []api.Delivered
	orders := 0
	var each func(ahead, left []api.Entry)
	each = func(ahead, left []api.Entry) {
		for i, x := range left {
			each(slices.Concat(ahead, []api.Entry{x}), slices.Concat(left[:i], left[i+1:]))
		}
		if len(left) > 0 {
			return
		}
		orders++
		var all []api.Delivered
		ledger := made(t, e, api.Digest{}, 0, fresh())
		for _, x := range ahead {
			all = append(all, put(t, ledger, x)...)
		}
		if orders == 1 {
			first, told = faceOf(ledger), all
		}
		if !reflect.DeepEqual(faceOf(ledger), first) || !slices.Equal(all, told) {
			t.Error(ahead)
		}
	}
	each(nil, l)
	if orders != 24 || len(told) != 4 || !first.done {
		t.Error(orders, told)
	}
}

// P21.5 and P21.6: each pair once, none that was there at first; numbered one by one, slots that do not fall.
func TestOnceAndNumbered(t *testing.T) {
	below := chance(7)
	many := 0
	for i, w := range worlds(t) {
		l := w.ledger(t)
		met := map[[2]int]bool{}
		index, slot := w.count, 0
		for _, x := range shuffled(below, w.entries) {
			for _, d := range put(t, l, x) {
				pair := [2]int{d.Request.Client, d.Request.Num}
				first := w.clients[pair[0]]
				if met[pair] || pair[1] < first.Base || first.Bits>>(pair[1]-first.Base)&1 == 1 {
					t.Fatal(i, "told again", d)
				}
				if d.Index != index+1 || d.Slot < slot {
					t.Fatal(i, "out of order", d)
				}
				met[pair], index, slot = true, d.Index, d.Slot
				many++
			}
		}
		if l.Count() != index {
			t.Error(i, l.Count(), index)
		}
	}
	if many < 1000 {
		t.Error("too little was told", many)
	}
}
