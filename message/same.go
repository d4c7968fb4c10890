package message

import (
	"slices"

	"raddle/api"
	"raddle/batch"
)

// Same tells whether two messages are the same.
func Same(a, b api.Msg) bool {
	switch {
	case a.Kind != b.Kind || a.Epoch != b.Epoch || a.Leader != b.Leader || a.View != b.View || a.Slot != b.Slot:
		return false
	case a.Vote != b.Vote || a.Digest != b.Digest || a.State != b.State:
		return false
	}
	return batch.Same(a.Batch, b.Batch) && sameChange(a.Change, b.Change) && slices.Equal(a.News, b.News) &&
		sameCert(a.Cert, b.Cert) && slices.Equal(a.Signs, b.Signs)
}

func sameCert(a, b api.Cert) bool {
	return a.Vote == b.Vote && slices.Equal(a.Signs, b.Signs)
}

func sameHeld(a, b api.Held) bool {
	return batch.Same(a.Batch, b.Batch) && sameCert(a.Cert, b.Cert)
}

func sameChange(a, b api.Change) bool {
	if a.Epoch != b.Epoch || a.Leader != b.Leader || a.View != b.View {
		return false
	}
	return slices.EqualFunc(a.Held, b.Held, sameHeld)
}
