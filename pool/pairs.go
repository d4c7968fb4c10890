package pool

import "raddle/api"

// pair is what a request is known by: other data under the same pair is no other request.
type pair struct {
	client, num int
}

// pairs is a set of pairs; the values say nothing.
type pairs map[pair]struct{}

// pairOf tells a request's pair.
func pairOf(r api.Request) pair {
	return pair{r.Client, r.Num}
}

// pairsOf tells the pairs that some batches have.
func pairsOf(l []api.Batch) pairs {
	out := pairs{}
	for _, b := range l {
		for _, r := range b.Requests {
			out.add(pairOf(r))
		}
	}
	return out
}

// has tells whether a pair is in the set.
func (s pairs) has(x pair) bool {
	_, there := s[x]
	return there
}

// add puts a pair into the set.
func (s pairs) add(x pair) {
	s[x] = struct{}{}
}
