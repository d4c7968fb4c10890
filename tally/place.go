package tally

import (
	"math"

	"raddle/api"
)

// place is where a reader is: the bytes ahead of it.
type place struct {
	rest []byte
}

func (p *place) left() int {
	return len(p.rest)
}

// take goes on behind n bytes, which must be there.
func (p *place) take(n int) []byte {
	taken := p.rest[:n]
	p.rest = p.rest[n:]
	return taken
}

// number goes on behind a number. Where it answers an error, the place is of no use any more.
func (p *place) number() (int, api.Errno) {
	if p.left() == 0 {
		return 0, api.ErrCut
	}
	k := int(p.take(1)[0])
	switch {
	case k > mostBytes:
		return 0, api.ErrForm
	case k > p.left():
		return 0, api.ErrCut
	}
	return value(p.take(k))
}

// value tells the number that stands in bytes; a leading zero would be a second form of it.
func value(digits []byte) (int, api.Errno) {
	if len(digits) > 0 && digits[0] == 0 {
		return 0, api.ErrForm
	}
	n := uint64(0)
	for i := range len(digits) {
		n = n<<8 | uint64(digits[i])
	}
	if n > math.MaxInt {
		return 0, api.ErrForm
	}
	return int(n), api.OK
}
