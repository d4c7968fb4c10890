package digest

import (
	"math/bits"

	"raddle/api"
)

const (
	blockBytes = 64
	countBytes = 8
)

// starts are the first 32 bits behind the point of the square roots of the first 8 primes.
var starts = [8]uint32{
	0x6a09e667, 0xbb67ae85, 0x3c6ef372, 0xa54ff53a, 0x510e527f, 0x9b05688c, 0x1f83d9ab, 0x5be0cd19,
}

// roots are the first 32 bits behind the point of the cube roots of the first 64 primes.
var roots = [64]uint32{
	0x428a2f98, 0x71374491, 0xb5c0fbcf, 0xe9b5dba5, 0x3956c25b, 0x59f111f1, 0x923f82a4, 0xab1c5ed5,
	0xd807aa98, 0x12835b01, 0x243185be, 0x550c7dc3, 0x72be5d74, 0x80deb1fe, 0x9bdc06a7, 0xc19bf174,
	0xe49b69c1, 0xefbe4786, 0x0fc19dc6, 0x240ca1cc, 0x2de92c6f, 0x4a7484aa, 0x5cb0a9dc, 0x76f988da,
	0x983e5152, 0xa831c66d, 0xb00327c8, 0xbf597fc7, 0xc6e00bf3, 0xd5a79147, 0x06ca6351, 0x14292967,
	0x27b70a85, 0x2e1b2138, 0x4d2c6dfc, 0x53380d13, 0x650a7354, 0x766a0abb, 0x81c2c92e, 0x92722c85,
	0xa2bfe8a1, 0xa81a664b, 0xc24b8b70, 0xc76c51a3, 0xd192e819, 0xd6990624, 0xf40e3585, 0x106aa070,
	0x19a4c116, 0x1e376c08, 0x2748774c, 0x34b0bcb5, 0x391c0cb3, 0x4ed8aa4a, 0x5b9cca4f, 0x682e6ff3,
	0x748f82ee, 0x78a5636f, 0x84c87814, 0x8cc70208, 0x90befffa, 0xa4506ceb, 0xbef9a3f7, 0xc67178f2,
}

// running is a digest on its way: the eight words so far, and the bytes that wait till they are a block.
type running struct {
	words   [8]uint32
	waiting [blockBytes]byte
	held    int
	count   uint64
}

func begin() running {
	return running{words: starts}
}

// add goes on with bytes. Parts end anywhere, so what is left of one waits for the next.
func (r *running) add(b []byte) {
	r.count += uint64(len(b))
	for len(b) > 0 {
		n := copy(r.waiting[r.held:], b)
		r.held += n
		b = b[n:]
		if r.held == blockBytes {
			r.turn()
			r.held = 0
		}
	}
}

// end puts the last bytes behind what came, and tells the words.
func (r *running) end() api.Digest {
	size := 8 * r.count // ahead of add, which would count the bytes that follow
	fill := blockBytes - (r.held+countBytes)%blockBytes
	var tail [blockBytes + countBytes]byte
	tail[0] = 0x80
	for i := range countBytes {
		tail[fill+i] = byte(size >> (56 - 8*i))
	}
	r.add(tail[:fill+countBytes])
	var d api.Digest
	for i, w := range r.words {
		putWord(d[4*i:], w)
	}
	return d
}

// turn takes the block that waits through the rounds.
func (r *running) turn() {
	words := spread(&r.waiting)
	a, b, c, d := r.words[0], r.words[1], r.words[2], r.words[3]
	e, f, g, h := r.words[4], r.words[5], r.words[6], r.words[7]
	for t := range len(words) {
		t1 := h + (ror(e, 6) ^ ror(e, 11) ^ ror(e, 25)) + (e&f ^ ^e&g) + roots[t] + words[t]
		t2 := (ror(a, 2) ^ ror(a, 13) ^ ror(a, 22)) + (a&b ^ a&c ^ b&c)
		h, g, f, e = g, f, e, d+t1
		d, c, b, a = c, b, a, t1+t2
	}
	for i, w := range [8]uint32{a, b, c, d, e, f, g, h} {
		r.words[i] += w
	}
}

// spread tells the words of all rounds of a block.
func spread(block *[blockBytes]byte) [64]uint32 {
	var w [64]uint32
	for t := range 16 {
		w[t] = word(block[4*t:])
	}
	for t := 16; t < len(w); t++ {
		x, y := w[t-15], w[t-2]
		s0 := ror(x, 7) ^ ror(x, 18) ^ x>>3
		s1 := ror(y, 17) ^ ror(y, 19) ^ y>>10
		w[t] = w[t-16] + s0 + w[t-7] + s1
	}
	return w
}

func ror(x uint32, n int) uint32 {
	return bits.RotateLeft32(x, -n)
}

// word reads a word, the highest byte first.
func word(b []byte) uint32 {
	return uint32(b[0])<<24 | uint32(b[1])<<16 | uint32(b[2])<<8 | uint32(b[3])
}

// putWord writes a word, the highest byte first.
func putWord(b []byte, w uint32) {
	b[0], b[1], b[2], b[3] = byte(w>>24), byte(w>>16), byte(w>>8), byte(w)
}
