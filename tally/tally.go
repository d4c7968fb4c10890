// Package tally puts numbers and texts into bytes. See shared/doc/01-tally.md.
package tally

import (
	"math"
	"math/bits"
	"slices"

	"raddle/api"
)

// mostBytes is how many bytes a number may have behind the byte that counts them.
const mostBytes = 8

// Reader reads bytes.
type Reader struct {
	place
	made bool // tells a reader of Read from a plain Reader{}
	err  api.Errno
}

// Put lays a number behind bytes.
func Put(b []byte, n int) []byte {
	out := roomBehind(b, Size(n))
	if n < 0 {
		return out
	}
	k := width(n)
	out = append(out, byte(k))
	for i := range k {
		out = append(out, byte(n>>(8*(k-1-i))))
	}
	return out
}

// PutText lays a text behind bytes.
func PutText(b []byte, s string) []byte {
	out := roomBehind(b, Size(len(s))+len(s))
	out = append(out, Put(nil, len(s))...)
	return append(out, s...)
}

// Size tells how many bytes a number has.
func Size(n int) int {
	if n < 0 {
		return 0
	}
	return 1 + width(n)
}

// Read begins to read bytes. It keeps a copy: whoever handed them in may go on writing.
func Read(b []byte) *Reader {
	return &Reader{place: place{rest: slices.Clone(b)}, made: true}
}

// Num reads a number.
func (r *Reader) Num(most int) int {
	if r.Err() != api.OK {
		return 0
	}
	n, err := r.number()
	if err == api.OK && n > most {
		err = api.ErrLong
	}
	if err != api.OK {
		r.fail(err)
		return 0
	}
	return n
}

// Text reads a text.
func (r *Reader) Text(most int) string {
	n := r.Num(math.MaxInt)
	if r.Err() != api.OK {
		return ""
	}
	if n > most {
		r.fail(api.ErrLong)
		return ""
	}
	return string(r.next(n))
}

// Raw reads bytes.
func (r *Reader) Raw(n int) []byte {
	if r.Err() != api.OK {
		return nil
	}
	if n < 0 {
		r.fail(api.ErrArg)
		return nil
	}
	return slices.Clone(r.next(n))
}

// Left tells how many bytes are left.
func (r *Reader) Left() int {
	if r.Err() != api.OK {
		return 0
	}
	return r.left()
}

// Err tells the first error.
func (r *Reader) Err() api.Errno {
	if r == nil || !r.made {
		return api.ErrNil
	}
	return r.err
}

// Done tells the first error, or that bytes are left.
func (r *Reader) Done() api.Errno {
	if err := r.Err(); err != api.OK {
		return err
	}
	if r.left() > 0 {
		return api.ErrMore
	}
	return api.OK
}

// next goes on behind n bytes, or fails where fewer are left.
func (r *Reader) next(n int) []byte {
	if n > r.left() {
		r.fail(api.ErrCut)
		return nil
	}
	return r.take(n)
}

// fail keeps an error. Nothing is read behind one, so the bytes are let go.
func (r *Reader) fail(err api.Errno) {
	r.err = err
	r.place = place{}
}

// width tells in how many bytes a number of at least 0 stands, without leading zeros.
func width(n int) int {
	return (bits.Len64(uint64(n)) + 7) / 8
}

// roomBehind copies bytes into new memory with room for more: those handed in may have spare room that is another's.
func roomBehind(b []byte, more int) []byte {
	return append(make([]byte, 0, len(b)+more), b...)
}
