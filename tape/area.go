package tape

import "slices"

// areaBytes is an area's bytes, in the order in which they were appended.
type areaBytes struct {
	data []byte
}

func (b *areaBytes) size() int {
	return len(b.data)
}

func (b *areaBytes) put(more []byte) {
	b.data = append(b.data, more...)
}

// cut leaves the first n bytes, which must be there.
func (b *areaBytes) cut(n int) {
	b.data = b.data[:n]
}

func (b *areaBytes) copied() []byte {
	return slices.Clone(b.data)
}

// diskArea is bytes, the first so many of which stay when power goes.
type diskArea struct {
	areaBytes
	sure int
}

func (a *diskArea) settle() {
	a.sure = a.size()
}

func (a *diskArea) empty() {
	*a = diskArea{}
}

// lose lets power go: of the bytes that are not sure the first keep stay. What has outlived a failure outlives the next one, too.
func (a *diskArea) lose(keep int) {
	loose := a.size() - a.sure
	a.cut(a.sure + max(0, min(keep, loose)))
	a.settle()
}
