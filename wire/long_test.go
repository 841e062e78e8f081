package wire

import (
	"testing"

	"leafmesh/api"
)

// P2.2: a length of more than two bytes gives ErrLong, and the mark remains open. No limit that NewWriter accepts leads there, so that the test raises it.
func TestPatchTooLong(t *testing.T) {
	w, err := NewWriter(0)
	if err != api.OK {
		t.Fatal(err)
	}
	w.limit = 1 << 17
	at, _ := w.Mark()
	inner, _ := w.Mark()
	w.Bytes(make([]byte, 65534))
	for range 2 {
		if err := w.Patch(at); err != api.ErrLong {
			t.Error(err)
		}
	}
	w.U8(1)
	if err := w.Patch(inner); err != api.OK {
		t.Error(err)
	}
	if b := w.Out(); b[0] != 0 || b[1] != 0 || b[2] != 255 || b[3] != 255 {
		t.Errorf("% x", b[:4])
	}
}
