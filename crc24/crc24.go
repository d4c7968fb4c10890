// Package crc24 makes check sums. See shared/doc/02-crc24.md.
package crc24

const (
	start = 0xb704ce
	width = 24
	all   = 1<<width - 1
)

// Sum tells the sum of bytes.
func Sum(b []byte) int {
	return Next(start, b)
}

// Next goes on with a sum.
func Next(sum int, b []byte) int {
	now := sum & all
	step := stepsFrom(now)
	for _, c := range b {
		now = step(c)
	}
	return now
}

// Fits tells whether a sum is that of bytes.
func Fits(b []byte, sum int) bool {
	return Sum(b) == sum
}

// stepsFrom answers a closure that goes on with a sum by a byte at each call, and tells what it came to.
func stepsFrom(now int) func(c byte) int {
	const atOnce = 4
	// What four bits that go beyond the sum leave in it: 0x864cfb, shifted and xored for each of them.
	left := [16]int{
		0x000000, 0x864cfb, 0x8ad50d, 0x0c99f6, 0x93e6e1, 0x15aa1a, 0x1933ec, 0x9f7f17,
		0xa18139, 0x27cdc2, 0x2b5434, 0xad18cf, 0x3267d8, 0xb42b23, 0xb8b2d5, 0x3efe2e,
	}
	return func(c byte) int {
		now ^= int(c) << (width - 8)
		for range 8 / atOnce {
			now = now<<atOnce&all ^ left[now>>(width-atOnce)]
		}
		return now
	}
}
