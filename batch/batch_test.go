package batch

import (
	"bytes"
	"crypto/sha256"
	"math"
	"slices"
	"strings"
	"testing"

	"raddle/api"
	"raddle/request"
	"raddle/seal"
	"raddle/tally"
)

const (
	nodes   = 4
	clients = 3
)

func keys() *seal.Keys {
	return seal.Derive("seed", nodes+clients)
}

// made is a request with its client's tag.
func made(t *testing.T, client, num int, data string) api.Request {
	t.Helper()
	r, err := request.Make(keys(), nodes, client, num, data)
	if err != api.OK {
		t.Fatalf("Make(%d, %d): %d", client, num, int(err))
	}
	return r
}

// plain is a request without a right tag, for calls that do not ask for one.
func plain(client, num int, data string) api.Request {
	return api.Request{Client: client, Num: num, Data: data}
}

func of(l ...api.Request) api.Batch {
	return api.Batch{Requests: l}
}

// number is a number's bytes by the document's words.
func number(n int) string {
	var low []byte
	for ; n > 0; n >>= 8 {
		low = append(low, byte(n))
	}
	slices.Reverse(low)
	return string(rune(len(low))) + string(low)
}

// laid is a request's bytes by the document's words.
func laid(r api.Request) string {
	return number(r.Client) + number(r.Num) + number(len(r.Data)) + r.Data + string(r.Tag[:])
}

// some are unlike batches of at most MaxRequests requests that may be; those that are Noop have none.
func some(t *testing.T) []api.Batch {
	t.Helper()
	a, b := made(t, 0, 1, "a"), made(t, 1, 2, "")
	c, d := made(t, 2, api.MaxNum, strings.Repeat("d", api.MaxData)), made(t, 0, 300, "\x00\xff")
	other := made(t, 0, 1, "b")
	tagged := a
	tagged.Tag[15]++
	return []api.Batch{
		{Noop: true}, {},
		of(a), of(b), of(c), of(d), of(other), of(tagged),
		of(a, b), of(b, a), of(a, a), of(a, other),
		of(a, b, c), of(c, b, a), of(a, b, d),
		of(a, b, c, d), of(a, b, d, c), of(d, c, b, a), of(a, a, a, a),
		of(api.Request{}), of(api.Request{}, api.Request{}),
		of(plain(api.MaxClients, 0, "")),
	}
}

func isZero(b api.Batch) bool {
	return !b.Noop && len(b.Requests) == 0
}

// P7.1

func TestNone(t *testing.T) {
	if b := None(); !b.Noop || len(b.Requests) != 0 {
		t.Errorf("None: %v", b)
	}
	if err := Good(keys(), nodes, clients, 0, None()); err != api.OK {
		t.Errorf("Good of None: %d", int(err))
	}
}

func TestGood(t *testing.T) {
	a, b, c, d := made(t, 0, 1, "a"), made(t, 1, 1, "b"), made(t, 2, 1, "c"), made(t, 0, 2, "d")
	again := made(t, 0, 1, "other data")
	forged := a
	forged.Data = "forged"
	mustNot := made(t, 2, 9, "e")
	mustNot.Num = 0
	far := made(t, 1, 9, strings.Repeat("x", api.MaxData))
	far.Data += "x"
	for _, x := range []struct {
		name string
		most int
		b    api.Batch
		want api.Errno
	}{
		{"nothing", 4, None(), api.OK},
		{"nothing, most 0", 0, None(), api.OK},
		{"nothing, most -1", -1, None(), api.ErrBatch},
		{"no requests, most 0", 0, of(), api.OK},
		{"no requests, most -1", -1, of(), api.ErrBatch},
		{"no requests, the least most", math.MinInt, of(), api.ErrBatch},
		{"an empty list", 0, api.Batch{Requests: []api.Request{}}, api.OK},
		{"nothing with an empty list", 0, api.Batch{Noop: true, Requests: []api.Request{}}, api.OK},
		{"nothing with a request", 4, api.Batch{Noop: true, Requests: []api.Request{a}}, api.ErrBatch},
		{"nothing with a forged request", 4, api.Batch{Noop: true, Requests: []api.Request{forged}}, api.ErrBatch},
		{"one", 4, of(a), api.OK},
		{"one, most 0", 0, of(a), api.ErrBatch},
		{"one, most -1", -1, of(a), api.ErrBatch},
		{"one, most 1", 1, of(a), api.OK},
		{"most", 4, of(a, b, c, d), api.OK},
		{"one above most", 3, of(a, b, c, d), api.ErrBatch},
		{"more than MaxRequests, as most says", 5, of(a, b, c, d, made(t, 0, 3, "")), api.OK},
		{"the greatest most", math.MaxInt, of(a, b, c, d), api.OK},
		{"a forged one", 4, of(a, b, forged), api.ErrForged},
		{"one that must not be", 4, of(a, mustNot), api.ErrRequest},
		{"one with too much data", 4, of(far), api.ErrRequest},
		{"one pair twice", 4, of(a, b, a), api.ErrTwice},
		{"one pair twice, one behind the other", 4, of(a, a), api.ErrTwice},
		{"one pair thrice", 4, of(a, a, a), api.ErrTwice},
		{"one pair with other data", 4, of(a, b, again), api.ErrTwice},
		{"too many goes ahead of forged", 1, of(forged, forged), api.ErrBatch},
		{"too many goes ahead of twice", 1, of(a, a), api.ErrBatch},
		{"one that must not be ahead of a pair twice", 4, of(a, mustNot, a), api.ErrRequest},
		{"one that must not be behind a pair twice", 4, of(a, a, mustNot), api.ErrTwice},
		{"the pair that is there already is forged", 4, of(a, forged), api.ErrForged},
		{"one that must not be ahead of a forged one", 4, of(mustNot, forged), api.ErrRequest},
		{"one that must not be behind a forged one", 4, of(forged, mustNot), api.ErrForged},
		{"one that must not be twice", 4, of(mustNot, mustNot), api.ErrRequest},
	} {
		if got := Good(keys(), nodes, clients, x.most, x.b); got != x.want {
			t.Errorf("%s: %d, want %d", x.name, int(got), int(x.want))
		}
	}
}

// What is asked of nodes and clients is request's own.
func TestGoodOfNodesAndClients(t *testing.T) {
	x := of(made(t, 0, 1, "a"), made(t, 2, 1, "b"))
	for _, y := range []struct {
		nodes, clients int
		want           api.Errno
	}{
		{nodes, clients, api.OK},
		{nodes, math.MaxInt, api.OK},
		{nodes, 2, api.ErrRequest},
		{nodes, 0, api.ErrRequest},
		{nodes, math.MinInt, api.ErrRequest},
		{nodes - 1, clients, api.ErrForged},
		{nodes + 1, clients, api.ErrForged},
		{-1, clients, api.ErrForged},
		{math.MaxInt, clients, api.ErrForged},
		{api.MaxNodes + 1, clients, api.ErrForged},
	} {
		if got := Good(keys(), y.nodes, y.clients, 4, x); got != y.want {
			t.Errorf("Good of %d nodes, %d clients: %d, want %d", y.nodes, y.clients, int(got), int(y.want))
		}
		if got := Good(keys(), y.nodes, y.clients, 4, of()); got != api.OK {
			t.Errorf("Good of %d nodes, %d clients, no requests: %d", y.nodes, y.clients, int(got))
		}
	}
}

// ErrNil is request's: it is told where there is a request, behind ErrBatch.
func TestGoodWithoutKeys(t *testing.T) {
	a := made(t, 0, 1, "a")
	for _, k := range []*seal.Keys{nil, {}} {
		for _, x := range []struct {
			name string
			most int
			b    api.Batch
			want api.Errno
		}{
			{"one", 4, of(a), api.ErrNil},
			{"one that must not be", 4, of(api.Request{Client: -1}), api.ErrNil},
			{"one pair twice", 4, of(a, a), api.ErrNil},
			{"too many", 0, of(a), api.ErrBatch},
			{"nothing with a request", 4, api.Batch{Noop: true, Requests: []api.Request{a}}, api.ErrBatch},
			{"nothing", 4, None(), api.OK},
			{"no requests", 4, of(), api.OK},
			{"no requests, most -1", -1, of(), api.ErrBatch},
		} {
			if got := Good(k, nodes, clients, x.most, x.b); got != x.want {
				t.Errorf("%s: %d, want %d", x.name, int(got), int(x.want))
			}
		}
	}
}

// P7.2

func TestTwice(t *testing.T) {
	a, b, c := plain(1, 1, "a"), plain(1, 2, "b"), plain(2, 1, "c")
	least, greatest := plain(math.MinInt, math.MaxInt, ""), plain(math.MaxInt, math.MinInt, "")
	for _, x := range []struct {
		name string
		l    []api.Request
		want int
	}{
		{"nil", nil, -1},
		{"none", []api.Request{}, -1},
		{"one", []api.Request{a}, -1},
		{"the zero one", []api.Request{{}}, -1},
		{"pairs that part in the number alone", []api.Request{a, b}, -1},
		{"pairs that part in the client alone", []api.Request{a, c}, -1},
		{"client and number turned about", []api.Request{b, c}, -1},
		{"the same data and tag under other pairs", []api.Request{plain(1, 1, "x"), plain(1, 2, "x"), plain(2, 2, "x")}, -1},
		{"twice", []api.Request{a, a}, 1},
		{"the zero one twice", []api.Request{{}, {}}, 1},
		{"twice behind others", []api.Request{a, b, c, b}, 3},
		{"twice with others behind", []api.Request{a, a, b, c}, 1},
		{"thrice", []api.Request{a, b, a, a}, 2},
		{"two pairs twice, crossed", []api.Request{a, b, b, a}, 2},
		{"with other data", []api.Request{a, b, plain(1, 1, "other")}, 2},
		{"with another tag", []api.Request{a, {Client: 1, Num: 1, Data: "a", Tag: api.Tag{1}}}, 1},
		{"edges of the numbers", []api.Request{least, greatest, plain(-1, -1, "")}, -1},
		{"edges of the numbers, twice", []api.Request{least, greatest, least}, 2},
	} {
		if got := Twice(x.l); got != x.want {
			t.Errorf("%s: %d, want %d", x.name, got, x.want)
		}
	}
}

func TestTwiceOfMany(t *testing.T) {
	var l []api.Request
	for i := range 5000 {
		l = append(l, plain(i%7, i/7, ""))
	}
	if got := Twice(l); got != -1 {
		t.Errorf("of unlike pairs: %d", got)
	}
	if got := Twice(append(l, l[2500])); got != len(l) {
		t.Errorf("the last one was there already: %d, want %d", got, len(l))
	}
}

func TestMeet(t *testing.T) {
	a, b, c, d := plain(1, 1, "a"), plain(1, 2, "b"), plain(2, 1, "c"), plain(2, 2, "d")
	for _, x := range []struct {
		name string
		a, b api.Batch
		want bool
	}{
		{"both without requests", of(), of(), false},
		{"both nothing", None(), None(), false},
		{"nothing and no requests", None(), of(), false},
		{"nothing and one", None(), of(a), false},
		{"no requests and one", of(), of(a), false},
		{"the same one", of(a), of(a), true},
		{"the zero request", of(api.Request{}), of(api.Request{}), true},
		{"another number", of(a), of(b), false},
		{"another client", of(a), of(c), false},
		{"client and number turned about", of(b), of(c), false},
		{"other data", of(a), of(plain(1, 1, "other")), true},
		{"another tag", of(a), of(api.Request{Client: 1, Num: 1, Data: "a", Tag: api.Tag{1}}), true},
		{"first and last", of(a, b), of(c, d, a), true},
		{"last and first", of(b, a), of(a, c, d), true},
		{"all in another order", of(a, b, c, d), of(d, c, b, a), true},
		{"a pair twice in one alone", of(a, a), of(b, c), false},
		{"unlike ones", of(a, b), of(c, d), false},
		{"Noop is not asked for", api.Batch{Noop: true, Requests: []api.Request{a}}, of(a), true},
	} {
		if got := Meet(x.a, x.b); got != x.want {
			t.Errorf("%s: %v", x.name, got)
		}
		if got := Meet(x.b, x.a); got != x.want {
			t.Errorf("%s, the other way round: %v", x.name, got)
		}
	}
}

func TestSame(t *testing.T) {
	all := some(t)
	for i, a := range all {
		for j, b := range all {
			if got := Same(a, b); got != (i == j) {
				t.Errorf("Same of %d and %d: %v", i, j, got)
			}
		}
		other := api.Batch{Noop: a.Noop, Requests: slices.Clone(a.Requests)}
		if !Same(a, other) || !Same(other, a) {
			t.Errorf("a copy of %d is not the same", i)
		}
	}
	empty := api.Batch{Requests: []api.Request{}}
	if !Same(empty, of()) || !Same(of(), empty) {
		t.Error("an empty list and none are not the same")
	}
	if !Same(api.Batch{Noop: true, Requests: []api.Request{}}, None()) {
		t.Error("nothing with an empty list is not nothing")
	}
	r := plain(1, 1, "a")
	if noop := (api.Batch{Noop: true, Requests: []api.Request{r}}); Same(noop, of(r)) || Same(of(r), noop) || Same(noop, None()) || !Same(noop, noop) {
		t.Error("Same of a batch that is Noop and has requests")
	}
}

func TestSameOfEachField(t *testing.T) {
	r := api.Request{Client: 1, Num: 2, Data: "d", Tag: api.Tag{3}}
	for name, change := range map[string]func(*api.Request){
		"client":    func(r *api.Request) { r.Client++ },
		"number":    func(r *api.Request) { r.Num++ },
		"data":      func(r *api.Request) { r.Data += "x" },
		"tag":       func(r *api.Request) { r.Tag[0]++ },
		"tag's end": func(r *api.Request) { r.Tag[15]++ },
	} {
		other := r
		change(&other)
		if Same(of(r), of(other)) || Same(of(r, r), of(r, other)) || Same(of(r, r), of(other, r)) {
			t.Errorf("%s: unlike requests are the same", name)
		}
	}
}

// P7.3

func TestPut(t *testing.T) {
	a, b := made(t, 0, 1, "a"), made(t, 2, 300, "")
	below := plain(-1, math.MinInt, "x")
	for _, x := range []struct {
		name string
		b    api.Batch
		want string
	}{
		{"nothing", None(), "\x00"},
		{"nothing with requests", api.Batch{Noop: true, Requests: []api.Request{a, b}}, "\x00"},
		{"no requests", of(), "\x01\x01"},
		{"an empty list", api.Batch{Requests: []api.Request{}}, "\x01\x01"},
		{"one", of(a), "\x01\x02" + laid(a)},
		{"two", of(a, b), "\x01\x03" + laid(a) + laid(b)},
		{"two in the other order", of(b, a), "\x01\x03" + laid(b) + laid(a)},
		{"most", of(a, b, a, b), "\x01\x05" + laid(a) + laid(b) + laid(a) + laid(b)},
		{"more than most", of(a, a, a, a, b), "\x01\x06" + strings.Repeat(laid(a), 4) + laid(b)},
		{"one that must not be", of(below), "\x01\x02\x01\x01x" + strings.Repeat("\x00", 16)},
		{"255 requests", of(slices.Repeat([]api.Request{a}, 255)...), "\x02\x01\x00" + strings.Repeat(laid(a), 255)},
	} {
		if got := string(Put(nil, x.b)); got != x.want {
			t.Errorf("%s: %x, want %x", x.name, got, x.want)
		}
		if got := string(Put([]byte("ahead"), x.b)); got != "ahead"+x.want {
			t.Errorf("%s: %x, want %x behind ahead", x.name, got, x.want)
		}
	}
}

// The spare room of what is handed in may be another's, and what is handed out is the caller's own.
func TestPutMakesNewMemory(t *testing.T) {
	for i, x := range some(t) {
		whole := bytes.Repeat([]byte("0123456789abcdef"), 64)
		was := bytes.Clone(whole)
		first := Put(whole[:4], x)
		second := Put(whole[:4], x)
		kept := bytes.Clone(second)
		for i := range first {
			first[i] = '#'
		}
		if !bytes.Equal(whole, was) {
			t.Errorf("%d: what was handed in has changed", i)
		}
		if !bytes.Equal(second, kept) {
			t.Errorf("%d: two answers share memory", i)
		}
	}
}

func TestGetLeavesWhatStandsBehind(t *testing.T) {
	for i, x := range some(t) {
		for _, behind := range []string{"", "\x00", "\x07", "\x01\x01", "\xff\xff"} {
			r := tally.Read([]byte(string(Put(nil, x)) + behind))
			if got := Get(r); !Same(got, x) {
				t.Errorf("%d: %v is read as %v", i, x, got)
			}
			if r.Err() != api.OK || string(r.Raw(r.Left())) != behind {
				t.Errorf("%d: behind it no longer stands %x", i, behind)
			}
		}
	}
}

func TestGetOneBehindTheOther(t *testing.T) {
	all := some(t)
	var b []byte
	for _, x := range all {
		b = Put(b, x)
	}
	r := tally.Read(b)
	for i, x := range all {
		if got := Get(r); !Same(got, x) {
			t.Errorf("%d: %v is read as %v", i, x, got)
		}
	}
	if r.Done() != api.OK {
		t.Errorf("at the end: %d", int(r.Done()))
	}
}

func TestGetOfWhatIsCut(t *testing.T) {
	for i, x := range some(t) {
		b := Put(nil, x)
		for n := range b {
			r := tally.Read(b[:n])
			if got := Get(r); !isZero(got) || r.Err() != api.ErrCut {
				t.Errorf("%d cut at %d: %v, error %d", i, n, got, int(r.Err()))
			}
		}
	}
}

func TestGetErrors(t *testing.T) {
	good := laid(made(t, 0, 1, "a"))
	tag := strings.Repeat("t", 16)
	for _, x := range []struct {
		name, b string
		want    api.Errno
	}{
		{"no bytes", "", api.ErrCut},
		{"a count that is no number", "\x09", api.ErrForm},
		{"a count with a leading zero", "\x01\x00", api.ErrForm},
		{"a count of one too many", "\x01\x06", api.ErrLong},
		{"a count of one too many, all there", "\x01\x06" + strings.Repeat(good, 5), api.ErrLong},
		{"the greatest count", "\x08\x7f\xff\xff\xff\xff\xff\xff\xff", api.ErrLong},
		{"a count above the greatest int", "\x08\x80\x00\x00\x00\x00\x00\x00\x00", api.ErrForm},
		{"fewer requests than the count", "\x01\x03" + good, api.ErrCut},
		{"a client beyond MaxClients", "\x01\x02\x01\x09\x01\x01\x00" + tag, api.ErrLong},
		{"a number beyond MaxNum", "\x01\x02\x00\x06\x01\x00\x00\x00\x00\x01\x00" + tag, api.ErrLong},
		{"data beyond MaxData", "\x01\x02\x00\x01\x01\x01\x41" + strings.Repeat("d", 65) + tag, api.ErrLong},
		{"an error in the last one", "\x01\x05" + strings.Repeat(good, 3) + "\x09", api.ErrForm},
		{"the first error stays", "\x01\x05" + good + "\x01\x00" + good, api.ErrForm},
	} {
		r := tally.Read([]byte(x.b))
		if got := Get(r); !isZero(got) {
			t.Errorf("%s: %v", x.name, got)
		}
		if r.Err() != x.want {
			t.Errorf("%s: %d, want %d", x.name, int(r.Err()), int(x.want))
		}
		// Behind an error nothing is read: not None, whose number is 0.
		if got := Get(r); !isZero(got) || r.Err() != x.want {
			t.Errorf("%s, read again: %v, %d", x.name, got, int(r.Err()))
		}
	}
}

func TestGetOfAReaderThatNoCallMade(t *testing.T) {
	for _, r := range []*tally.Reader{nil, {}} {
		if got := Get(r); !isZero(got) || r.Err() != api.ErrNil {
			t.Errorf("%v, error %d", got, int(r.Err()))
		}
	}
}

func TestGetBehindAnEarlierError(t *testing.T) {
	r := tally.Read(Put(nil, None()))
	r.Raw(-1)
	if got := Get(r); !isZero(got) || r.Err() != api.ErrArg {
		t.Errorf("%v, error %d", got, int(r.Err()))
	}
}

func TestGetMakesNewLists(t *testing.T) {
	x := of(made(t, 0, 1, "a"), made(t, 1, 2, "b"))
	b := Put(nil, x)
	first, second := Get(tally.Read(b)), Get(tally.Read(b))
	first.Requests[0] = api.Request{}
	if !Same(second, x) {
		t.Error("two answers share memory")
	}
}

// P7.4

func TestDigest(t *testing.T) {
	a, b := made(t, 0, 1, "a"), made(t, 2, 300, "")
	for _, x := range []struct {
		name string
		b    api.Batch
		want string
	}{
		{"nothing", None(), "B\x00"},
		{"nothing with requests", api.Batch{Noop: true, Requests: []api.Request{a}}, "B\x00"},
		{"no requests", of(), "B\x01\x01"},
		{"one", of(a), "B\x01\x02" + laid(a)},
		{"two", of(a, b), "B\x01\x03" + laid(a) + laid(b)},
		{"more than most", of(a, a, a, a, b), "B\x01\x06" + strings.Repeat(laid(a), 4) + laid(b)},
	} {
		if got := Digest(x.b); got != api.Digest(sha256.Sum256([]byte(x.want))) {
			t.Errorf("%s: %x", x.name, got)
		}
	}
	for i, x := range some(t) {
		if got := Digest(x); got != api.Digest(sha256.Sum256(Put([]byte("B"), x))) {
			t.Errorf("%d: %x", i, got)
		}
	}
}

// P7.5

func TestWhatWasPutComesBack(t *testing.T) {
	for i, x := range some(t) {
		r := tally.Read(Put(nil, x))
		got := Get(r)
		if got.Noop != x.Noop || !slices.Equal(got.Requests, x.Requests) || r.Done() != api.OK {
			t.Errorf("%d: %v is read as %v, Done %d", i, x, got, int(r.Done()))
		}
	}
}

// What may be and has more is put, but not read; what is Noop and has requests is read as None.
func TestWhatDoesNotComeBack(t *testing.T) {
	a := made(t, 0, 1, "a")
	r := tally.Read(Put(nil, of(a, a, a, a, a)))
	if got := Get(r); !isZero(got) || r.Err() != api.ErrLong {
		t.Errorf("more than MaxRequests: %v, error %d", got, int(r.Err()))
	}
	r = tally.Read(Put(nil, api.Batch{Noop: true, Requests: []api.Request{a}}))
	if got := Get(r); !Same(got, None()) || r.Done() != api.OK {
		t.Errorf("nothing with requests: %v, Done %d", got, int(r.Done()))
	}
}

// P7.6

func TestUnlikeBatchesAreApart(t *testing.T) {
	all := some(t)
	for i, a := range all {
		for j, b := range all {
			if i == j {
				continue
			}
			if bytes.Equal(Put(nil, a), Put(nil, b)) {
				t.Errorf("%d and %d have the same bytes", i, j)
			}
			if Digest(a) == Digest(b) {
				t.Errorf("%d and %d have one digest", i, j)
			}
		}
	}
}

// Rules 4 and 8: what is handed in stays, and what lies behind a list's length is not read.
func TestWhatIsHandedInStays(t *testing.T) {
	a, b := made(t, 0, 1, "a"), made(t, 1, 2, "b")
	whole := []api.Request{a, b, a, b, {Client: -1}}
	was := slices.Clone(whole)
	x := api.Batch{Requests: whole[:2]}
	if Good(keys(), nodes, clients, 2, x) != api.OK || Twice(x.Requests) != -1 {
		t.Error("what lies behind the list's length was read")
	}
	if !Meet(x, x) || Meet(of(made(t, 2, 1, "")), x) || Meet(x, of(api.Request{Client: -1})) {
		t.Error("Meet")
	}
	if !Same(x, of(a, b)) || !bytes.Equal(Put(nil, x), Put(nil, of(a, b))) || Digest(x) != Digest(of(a, b)) {
		t.Error("what lies behind the list's length was taken")
	}
	if !slices.Equal(whole, was) {
		t.Errorf("what was handed in is now %v", whole)
	}
}
