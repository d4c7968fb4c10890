package journal

import (
	"iter"

	"raddle/api"
	"raddle/crc24"
	"raddle/tally"
)

// The kinds of frames.
const (
	kindRecord = 'D'
	kindTurn   = 'G'
)

// sumBytes is how many bytes a frame's sum has.
const sumBytes = 3

// Frame tells a record's frame.
func Frame(kind byte, rec []byte) []byte {
	summed := tally.PutText([]byte{kind}, string(rec))
	sum := crc24.Sum(summed)
	out := make([]byte, 0, sumBytes+len(summed))
	out = append(out, byte(sum>>16), byte(sum>>8), byte(sum))
	return append(out, summed...)
}

// Frames tells the frames of bytes.
func Frames(b []byte) (kinds []byte, recs [][]byte) {
frames:
	for kind, rec := range fitting(b) {
		switch kind {
		case kindRecord:
		case kindTurn:
			if turnOf(rec) == 0 {
				break frames
			}
		default:
			break frames
		}
		kinds = append(kinds, kind)
		recs = append(recs, rec)
	}
	return kinds, recs
}

// fitting yields the kinds and records of the frames that follow one another in bytes and have the right sums, of whatever kind.
func fitting(b []byte) iter.Seq2[byte, []byte] {
	return func(yield func(byte, []byte) bool) {
		r := tally.Read(b)
		for {
			sum := r.Raw(sumBytes)
			from := len(b) - r.Left()
			kind := r.Raw(1)
			rec := r.Text(api.MaxRecord)
			if r.Err() != api.OK {
				return
			}
			if !crc24.Fits(b[from:len(b)-r.Left()], sumOf(sum)) {
				return
			}
			if !yield(kind[0], []byte(rec)) {
				return
			}
		}
	}
}

// sumOf tells the sum that stands in a frame's first bytes.
func sumOf(b []byte) int {
	sum := 0
	for _, c := range b {
		sum = sum<<8 | int(c)
	}
	return sum
}

// turnOf tells the turn that a record of a frame G is, or 0 if it is none.
func turnOf(rec []byte) int {
	r := tally.Read(rec)
	n := r.Num(api.MaxNum)
	if r.Done() != api.OK {
		return 0
	}
	return n
}

// contents tells the turn and the records of an area with these bytes.
func contents(b []byte) (turn int, recs [][]byte) {
	kinds, all := Frames(b)
	for i, kind := range kinds {
		if kind == kindTurn {
			turn = max(turn, turnOf(all[i]))
		} else {
			recs = append(recs, all[i])
		}
	}
	return turn, recs
}
