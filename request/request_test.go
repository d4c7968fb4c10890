package request

import (
	"bytes"
	"crypto/hmac"
	"crypto/sha256"
	"math"
	"slices"
	"strings"
	"testing"

	"raddle/api"
	"raddle/seal"
	"raddle/tally"
)

const seed = "seed"

// number is a number's bytes by the document's words.
func number(n int) string {
	var low []byte
	for ; n > 0; n >>= 8 {
		low = append(low, byte(n))
	}
	slices.Reverse(low)
	return string(rune(len(low))) + string(low)
}

// fields are all of a request but its tag, by the document's words.
func fields(client, num int, data string) string {
	return number(client) + number(num) + number(len(data)) + data
}

// tagBy is an identity's tag as the library makes it.
func tagBy(id int, body string) api.Tag {
	key := sha256.Sum256([]byte(number(len(seed)) + seed + number(id)))
	h := hmac.New(sha256.New, key[:])
	h.Write([]byte(body))
	return api.Tag(h.Sum(nil)[:16])
}

func mustMake(t *testing.T, k *seal.Keys, nodes, client, num int, data string) api.Request {
	t.Helper()
	r, err := Make(k, nodes, client, num, data)
	if err != api.OK {
		t.Fatalf("Make(%d, %d, %d, %d bytes): %d", nodes, client, num, len(data), int(err))
	}
	return r
}

// datas are texts at the edges of what a request may have, and bytes of any kind.
func datas() []string {
	return []string{"", "x", "\x00", "\xff\xfe\x80", "z\u00e4hl\u20ac", strings.Repeat("d", api.MaxData-1), strings.Repeat("d", api.MaxData)}
}

// nums are numbers at the edges of what a request may have.
func nums() []int {
	return []int{1, 2, 7, 255, 256, 65536, 1 << 32, api.MaxNum - 1, api.MaxNum}
}

// P6.1

func TestBody(t *testing.T) {
	for _, x := range []struct {
		r    api.Request
		want string
	}{
		{api.Request{}, "R\x00\x00\x00"},
		{api.Request{Client: 2, Num: 7, Data: "x"}, "R\x01\x02\x01\x07\x01\x01x"},
		{api.Request{Client: 2, Num: 7, Data: "x", Tag: api.Tag{9}}, "R\x01\x02\x01\x07\x01\x01x"},
		{api.Request{Client: 7, Num: 256, Data: ""}, "R\x01\x07\x02\x01\x00\x00"},
		{api.Request{Client: 0, Num: api.MaxNum, Data: "ab\x00"}, "R\x00\x06\x01\x00\x00\x00\x00\x00\x01\x03ab\x00"},
		{api.Request{Client: -1, Num: math.MinInt, Data: "a"}, "R\x01\x01a"},
		{api.Request{Client: math.MaxInt, Num: 1}, "R\x08\x7f\xff\xff\xff\xff\xff\xff\xff\x01\x01\x00"},
		{api.Request{Data: strings.Repeat("q", 256)}, "R\x00\x00\x02\x01\x00" + strings.Repeat("q", 256)},
	} {
		if got := Body(x.r); got != x.want {
			t.Errorf("Body(%v): %x, want %x", x.r, got, x.want)
		}
	}
}

func TestMake(t *testing.T) {
	k := seal.Derive(seed, api.MaxNodes+api.MaxClients)
	for _, nodes := range []int{0, 1, 4, api.MaxNodes - 1, api.MaxNodes} {
		for _, client := range []int{0, 1, 2, api.MaxClients - 1} {
			for _, num := range nums() {
				for _, data := range datas() {
					want := api.Request{Client: client, Num: num, Data: data, Tag: tagBy(nodes+client, "R"+fields(client, num, data))}
					if got, err := Make(k, nodes, client, num, data); got != want || err != api.OK {
						t.Fatalf("Make(%d, %d, %d, %q): %v, %d; want %v", nodes, client, num, data, got, int(err), want)
					}
				}
			}
		}
	}
	// The chapter's example.
	r := mustMake(t, k, 4, 2, 7, "x")
	if !k.Check(6, Body(r), r.Tag) {
		t.Error("client 2 of 4 nodes does not sign as identity 6")
	}
}

func TestMakeErrors(t *testing.T) {
	k := seal.Derive(seed, 8)
	all := seal.Derive(seed, 4096)
	long := strings.Repeat("d", api.MaxData+1)
	for _, x := range []struct {
		name               string
		k                  *seal.Keys
		nodes, client, num int
		data               string
		want               api.Errno
	}{
		{"nil keys", nil, 4, 2, 7, "x", api.ErrNil},
		{"plain keys", &seal.Keys{}, 4, 2, 7, "x", api.ErrNil},
		{"nil ahead of the client", nil, 4, -1, 7, "x", api.ErrNil},
		{"nil ahead of the number", &seal.Keys{}, 4, 2, 0, "x", api.ErrNil},
		{"nil ahead of the data", nil, 4, 2, 7, long, api.ErrNil},
		{"nil ahead of nodes", &seal.Keys{}, -1, 2, 7, "x", api.ErrNil},
		{"client -1", k, 4, -1, 7, "x", api.ErrRequest},
		{"client MaxClients", all, 4, api.MaxClients, 7, "x", api.ErrRequest},
		{"the least client", k, 4, math.MinInt, 7, "x", api.ErrRequest},
		{"the greatest client", all, 64, math.MaxInt, 7, "x", api.ErrRequest},
		{"num 0", k, 4, 2, 0, "x", api.ErrRequest},
		{"num -1", k, 4, 2, -1, "x", api.ErrRequest},
		{"num beyond MaxNum", k, 4, 2, api.MaxNum + 1, "x", api.ErrRequest},
		{"the least num", k, 4, 2, math.MinInt, "x", api.ErrRequest},
		{"the greatest num", k, 4, 2, math.MaxInt, "x", api.ErrRequest},
		{"data beyond MaxData", k, 4, 2, 7, long, api.ErrRequest},
		{"data of few signs and many bytes", k, 4, 2, 7, strings.Repeat("\u20ac", 22), api.ErrRequest},
		{"the client ahead of nodes", k, 65, 8, 7, "x", api.ErrRequest},
		{"the number ahead of nodes", k, -1, 2, 0, "x", api.ErrRequest},
		{"the data ahead of nodes", k, 65, 2, 7, long, api.ErrRequest},
		{"the number ahead of an identity", k, 4, 7, 0, "x", api.ErrRequest},
		{"nodes -1", k, -1, 2, 7, "x", api.ErrArg},
		{"nodes -1, an identity 1 of all", all, -1, 2, 7, "x", api.ErrArg},
		{"nodes beyond MaxNodes", all, api.MaxNodes + 1, 2, 7, "x", api.ErrArg},
		{"the least nodes", all, math.MinInt, 2, 7, "x", api.ErrArg},
		{"the greatest nodes", all, math.MaxInt, 2, 7, "x", api.ErrArg},
		{"no such identity", k, 4, 4, 7, "x", api.ErrArg},
		{"no identity behind the nodes", k, 8, 0, 7, "x", api.ErrArg},
		{"fewer identities than nodes", k, 64, 0, 7, "x", api.ErrArg},
		{"one key", seal.Derive(seed, 1), 0, 1, 7, "x", api.ErrArg},
	} {
		if got, err := Make(x.k, x.nodes, x.client, x.num, x.data); err != x.want || got != (api.Request{}) {
			t.Errorf("%s: %v, %d; want %d", x.name, got, int(err), int(x.want))
		}
	}
	// The last identity, and the only one.
	mustMake(t, k, 4, 3, 1, "")
	mustMake(t, seal.Derive(seed, 1), 0, 0, 1, "")
}

// P6.2

func TestGood(t *testing.T) {
	k := seal.Derive(seed, 4096)
	for _, nodes := range []int{0, 4, api.MaxNodes} {
		for _, client := range []int{0, 3, api.MaxClients - 1} {
			for _, num := range nums() {
				r := api.Request{Client: client, Num: num, Data: "data", Tag: tagBy(nodes+client, "R"+fields(client, num, "data"))}
				for _, clients := range []int{client + 1, api.MaxClients + 1, math.MaxInt} {
					if err := Good(k, nodes, clients, r); err != api.OK {
						t.Errorf("nodes %d, clients %d, %v: %d", nodes, clients, r, int(err))
					}
				}
			}
		}
	}
	// More clients than MaxClients are none of Good's business.
	r := api.Request{Client: 4091, Num: 1, Tag: tagBy(4095, "R"+fields(4091, 1, ""))}
	if err := Good(k, 4, 4092, r); err != api.OK {
		t.Errorf("client 4091 of 4092: %d", int(err))
	}
}

func TestGoodErrors(t *testing.T) {
	k := seal.Derive(seed, 8)
	all := seal.Derive(seed, 4096)
	long := strings.Repeat("d", api.MaxData+1)
	// signed has the right tag, whatever else is wrong.
	signed := func(nodes, client, num int, data string) api.Request {
		r := api.Request{Client: client, Num: num, Data: data}
		tag, err := all.Sign(nodes+client, Body(r))
		if err != api.OK {
			t.Fatalf("Sign(%d): %d", nodes+client, int(err))
		}
		r.Tag = tag
		return r
	}
	right := signed(4, 2, 7, "x")
	for _, x := range []struct {
		name           string
		k              *seal.Keys
		nodes, clients int
		r              api.Request
		want           api.Errno
	}{
		{"all right", k, 4, 3, right, api.OK},
		{"nil keys", nil, 4, 3, right, api.ErrNil},
		{"plain keys", &seal.Keys{}, 4, 3, right, api.ErrNil},
		{"nil ahead of the client", nil, 4, 2, right, api.ErrNil},
		{"nil ahead of a forged one", &seal.Keys{}, 4, 3, api.Request{Client: 2, Num: 7}, api.ErrNil},
		{"nil ahead of nodes", nil, -1, 3, right, api.ErrNil},
		{"as many clients as its number", k, 4, 2, right, api.ErrRequest},
		{"no clients", k, 4, 0, signed(4, 0, 1, ""), api.ErrRequest},
		{"clients below 0", k, 4, -1, signed(4, 0, 1, ""), api.ErrRequest},
		{"the least clients", k, 4, math.MinInt, signed(4, 0, 1, ""), api.ErrRequest},
		{"client -1", k, 4, 8, signed(4, -1, 7, "x"), api.ErrRequest},
		{"client -1 of the greatest clients", k, 4, math.MaxInt, signed(4, -1, 7, "x"), api.ErrRequest},
		{"the least client", k, 4, 8, api.Request{Client: math.MinInt, Num: 7}, api.ErrRequest},
		{"the greatest client", k, 4, math.MaxInt, api.Request{Client: math.MaxInt, Num: 7}, api.ErrRequest},
		{"num 0", k, 4, 3, signed(4, 2, 0, "x"), api.ErrRequest},
		{"num -1", k, 4, 3, signed(4, 2, -1, "x"), api.ErrRequest},
		{"num beyond MaxNum", k, 4, 3, signed(4, 2, api.MaxNum+1, "x"), api.ErrRequest},
		{"the least num", k, 4, 3, signed(4, 2, math.MinInt, "x"), api.ErrRequest},
		{"the greatest num", k, 4, 3, signed(4, 2, math.MaxInt, "x"), api.ErrRequest},
		{"data beyond MaxData", k, 4, 3, signed(4, 2, 7, long), api.ErrRequest},
		{"the zero request", k, 4, 3, api.Request{}, api.ErrRequest},
		{"the client ahead of a forged one", k, 4, 2, api.Request{Client: 2, Num: 7}, api.ErrRequest},
		{"the number ahead of nodes", k, 65, 3, signed(4, 2, 0, "x"), api.ErrRequest},
		{"the data ahead of a forged one", k, 4, 3, api.Request{Client: 2, Num: 7, Data: long}, api.ErrRequest},
		{"nodes -1", k, -1, 3, signed(-1, 2, 7, "x"), api.ErrForged},
		{"nodes beyond MaxNodes", all, api.MaxNodes + 1, 3, signed(65, 2, 7, "x"), api.ErrForged},
		{"the least nodes", k, math.MinInt, 3, right, api.ErrForged},
		{"the greatest nodes", all, math.MaxInt, 3, right, api.ErrForged},
		{"one node more", k, 5, 3, right, api.ErrForged},
		{"one node fewer", k, 3, 3, right, api.ErrForged},
		{"no such identity, a zero tag", k, 4, 8, api.Request{Client: 4, Num: 1}, api.ErrForged},
		{"no such identity, the tag it would have", k, 4, 8, signed(4, 4, 1, ""), api.ErrForged},
		{"nodes and client beyond an int", all, 4, math.MaxInt, api.Request{Client: math.MaxInt - 1, Num: 1}, api.ErrForged},
		{"a zero tag", k, 4, 3, api.Request{Client: 2, Num: 7, Data: "x"}, api.ErrForged},
	} {
		was := x.r
		if err := Good(x.k, x.nodes, x.clients, x.r); err != x.want {
			t.Errorf("%s: %d, want %d", x.name, int(err), int(x.want))
		}
		if x.r != was {
			t.Errorf("%s: what was handed in is now %v", x.name, x.r)
		}
	}
}

// P6.3

func TestBucket(t *testing.T) {
	for _, client := range []int{0, 1, 7, 255, 256, math.MaxInt} {
		for _, num := range []int{0, 1, 2, 255, 256, api.MaxNum, math.MaxInt} {
			d := sha256.Sum256([]byte(number(client) + number(num)))
			share := 0
			for _, b := range d[:7] {
				share = share<<8 | int(b)
			}
			for _, buckets := range []int{1, 2, 3, 4, 16, 1000, 1 << 56, math.MaxInt} {
				if got := Bucket(client, num, buckets); got != share%buckets {
					t.Errorf("Bucket(%d, %d, %d): %d, want %d", client, num, buckets, got, share%buckets)
				}
			}
			for _, buckets := range []int{0, -1, -4, math.MinInt} {
				if got := Bucket(client, num, buckets); got != 0 {
					t.Errorf("Bucket(%d, %d, %d): %d, want 0", client, num, buckets, got)
				}
			}
		}
	}
}

func TestBucketOfNumbersBelow0(t *testing.T) {
	for _, x := range [][2]int{{-1, 1}, {1, -1}, {-1, -1}, {math.MinInt, 5}, {5, math.MinInt}, {-1, 0}, {0, -1}} {
		// So many buckets that no share is 0 by chance.
		for _, buckets := range []int{1, 4, math.MaxInt, 0, -1} {
			if got := Bucket(x[0], x[1], buckets); got != 0 {
				t.Errorf("Bucket(%d, %d, %d): %d, want 0", x[0], x[1], buckets, got)
			}
		}
	}
}

// P6.4

func TestPut(t *testing.T) {
	tag := api.Tag{1, 2, 3, 4, 5, 6, 7, 8, 9, 10, 11, 12, 13, 14, 15, 16}
	for _, client := range []int{0, 2, 7, 300} {
		for _, num := range append(nums(), 0, math.MaxInt) {
			for _, data := range append(datas(), strings.Repeat("l", 300)) {
				want := fields(client, num, data) + string(tag[:])
				r := api.Request{Client: client, Num: num, Data: data, Tag: tag}
				if got := string(Put(nil, r)); got != want {
					t.Errorf("Put(nil, %v): %x, want %x", r, got, want)
				}
				if got := string(Put([]byte("ahead"), r)); got != "ahead"+want {
					t.Errorf("Put(ahead, %v): %x, want %x behind ahead", r, got, want)
				}
			}
		}
	}
	if got, want := Put(nil, api.Request{}), append([]byte{0, 0, 0}, make([]byte, 16)...); !bytes.Equal(got, want) {
		t.Errorf("Put of the zero request: %x, want %x", got, want)
	}
	if got, want := Put([]byte{}, api.Request{Client: -1, Num: -7, Data: "a"}), append([]byte("\x01\x01a"), make([]byte, 16)...); !bytes.Equal(got, want) {
		t.Errorf("Put of numbers below 0: %x, want %x", got, want)
	}
}

func TestPutMakesNewMemory(t *testing.T) {
	r := api.Request{Client: 2, Num: 7, Data: "x", Tag: api.Tag{5}}
	whole := []byte(strings.Repeat("0123456789abcdef", 8))
	was := string(whole)
	first, second := Put(whole[:4], r), Put(whole[:4], r)
	kept := string(second)
	for i := range first {
		first[i] = '#'
	}
	_ = append(first, "##"...)
	if string(whole) != was {
		t.Errorf("what was handed in, with its spare room, is now %q", whole)
	}
	if string(second) != kept || !strings.HasPrefix(kept, "0123") {
		t.Errorf("two answers share memory: %q was %q", second, kept)
	}
	if r != (api.Request{Client: 2, Num: 7, Data: "x", Tag: api.Tag{5}}) {
		t.Errorf("the request is now %v", r)
	}
}

func TestGet(t *testing.T) {
	tag := api.Tag{1, 2, 3, 4, 5, 6, 7, 8, 9, 10, 11, 12, 13, 14, 15, 16}
	// Get goes by what may be read, which is a little more than what may be made.
	for _, client := range []int{0, 1, api.MaxClients - 1, api.MaxClients} {
		for _, num := range append(nums(), 0) {
			for _, data := range datas() {
				want := api.Request{Client: client, Num: num, Data: data, Tag: tag}
				x := tally.Read([]byte(fields(client, num, data) + string(tag[:]) + "left"))
				if got := Get(x); got != want || x.Err() != api.OK {
					t.Errorf("Get: %v, %d; want %v", got, int(x.Err()), want)
				}
				if left := x.Raw(4); string(left) != "left" || x.Done() != api.OK {
					t.Errorf("behind %v stands %q, Done %d", want, left, int(x.Done()))
				}
			}
		}
	}
}

func TestGetCutAtEachByte(t *testing.T) {
	for _, r := range []api.Request{
		{Client: 2, Num: 7, Data: "x", Tag: api.Tag{9, 8, 7}},
		{Client: 7, Num: api.MaxNum, Data: strings.Repeat("d", api.MaxData), Tag: api.Tag{15: 1}},
		{},
	} {
		whole := Put(nil, r)
		for n := range len(whole) {
			x := tally.Read(whole[:n])
			if got := Get(x); got != (api.Request{}) || x.Err() != api.ErrCut {
				t.Errorf("cut at %d of %d: %v, %d; want ErrCut", n, len(whole), got, int(x.Err()))
			}
		}
		x := tally.Read(whole)
		if got := Get(x); got != r || x.Done() != api.OK {
			t.Errorf("whole: %v, %d; want %v", got, int(x.Done()), r)
		}
	}
}

func TestGetErrors(t *testing.T) {
	tag := strings.Repeat("t", 16)
	for _, x := range []struct {
		name, b string
		want    api.Errno
	}{
		{"nothing", "", api.ErrCut},
		{"client beyond", fields(api.MaxClients+1, 7, "x") + tag, api.ErrLong},
		{"the greatest client", fields(math.MaxInt, 7, "x") + tag, api.ErrLong},
		{"num beyond", fields(2, api.MaxNum+1, "x") + tag, api.ErrLong},
		{"the greatest num", fields(2, math.MaxInt, "x") + tag, api.ErrLong},
		{"data beyond", fields(2, 7, strings.Repeat("d", api.MaxData+1)) + tag, api.ErrLong},
		{"client in no form", "\x01\x00\x01\x07\x01\x01x" + tag, api.ErrForm},
		{"num in no form", "\x01\x02\x09\x01\x01x" + tag, api.ErrForm},
		{"data's length in no form", "\x01\x02\x01\x07\x02\x00\x01x" + tag, api.ErrForm},
		{"client ahead of num", fields(api.MaxClients+1, 7, "x")[:2] + "\x09", api.ErrLong},
		{"one byte of the tag too few", fields(2, 7, "x") + tag[1:], api.ErrCut},
	} {
		r := tally.Read([]byte(x.b))
		if got := Get(r); got != (api.Request{}) || r.Err() != x.want {
			t.Errorf("%s: %v, %d; want %d", x.name, got, int(r.Err()), int(x.want))
		}
	}
}

func TestGetOfReadersWithAnError(t *testing.T) {
	var none *tally.Reader
	failed := tally.Read(Put(nil, api.Request{Client: 2, Num: 7, Data: "x", Tag: api.Tag{9}}))
	failed.Raw(-1)
	for _, x := range []struct {
		name string
		r    *tally.Reader
		want api.Errno
	}{{"nil", none, api.ErrNil}, {"plain", &tally.Reader{}, api.ErrNil}, {"failed", failed, api.ErrArg}} {
		if got := Get(x.r); got != (api.Request{}) || x.r.Err() != x.want {
			t.Errorf("%s: %v, %d; want %d", x.name, got, int(x.r.Err()), int(x.want))
		}
	}
}

// P6.5

func TestWhatWasMadeIsGood(t *testing.T) {
	k := seal.Derive(seed, api.MaxNodes+api.MaxClients)
	for _, nodes := range []int{0, 4, api.MaxNodes} {
		for client := range api.MaxClients {
			for _, data := range datas() {
				r := mustMake(t, k, nodes, client, 7, data)
				for clients := -1; clients <= api.MaxClients+2; clients++ {
					want := api.OK
					if clients <= client {
						want = api.ErrRequest
					}
					if err := Good(k, nodes, clients, r); err != want {
						t.Errorf("client %d of %d: %d, want %d", client, clients, int(err), int(want))
					}
				}
			}
		}
	}
}

func TestWhatWasChangedIsForged(t *testing.T) {
	const nodes, clients = 4, api.MaxClients
	k := seal.Derive(seed, nodes+clients)
	made := mustMake(t, k, nodes, 2, 7, "data")
	forged := func(name string, change func(r *api.Request)) {
		t.Helper()
		r := made
		change(&r)
		if err := Good(k, nodes, clients, r); err != api.ErrForged {
			t.Errorf("%s: %d, want ErrForged", name, int(err))
		}
	}
	for _, num := range append(nums(), 6, 8) {
		if num != made.Num {
			forged("another number", func(r *api.Request) { r.Num = num })
		}
	}
	for _, data := range append(datas(), "Data", "dat", "data\x00", "datb") {
		forged("other data", func(r *api.Request) { r.Data = data })
	}
	for client := range clients {
		if client != made.Client {
			forged("another client", func(r *api.Request) { r.Client = client })
		}
	}
	for at := range made.Tag {
		forged("another byte of the tag", func(r *api.Request) { r.Tag[at] ^= 1 })
	}
	forged("signed by a node", func(r *api.Request) { r.Tag = tagBy(2, Body(*r)) })
	forged("signed by another client", func(r *api.Request) { r.Tag = tagBy(nodes+3, Body(*r)) })
	forged("without its letter", func(r *api.Request) { r.Tag = tagBy(nodes+2, Body(*r)[1:]) })
	if err := Good(k, nodes, clients, made); err != api.OK {
		t.Errorf("as it was made: %d", int(err))
	}
}

// P6.6

func TestGoodRequestsComeBack(t *testing.T) {
	k := seal.Derive(seed, 4+api.MaxClients)
	var b []byte
	var all []api.Request
	for client := range api.MaxClients {
		for _, num := range nums() {
			for _, data := range datas() {
				r := mustMake(t, k, 4, client, num, data)
				all = append(all, r)
				b = Put(b, r)
			}
		}
	}
	x := tally.Read(b)
	for _, r := range all {
		got := Get(x)
		if got != r || Good(k, 4, api.MaxClients, got) != api.OK {
			t.Fatalf("%v comes back as %v, with error %d", r, got, int(x.Err()))
		}
	}
	if x.Done() != api.OK {
		t.Errorf("Done: %d", int(x.Done()))
	}
}
