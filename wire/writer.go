// Package wire is layer 2: writing and reading numbers in network byte order, within limits. See shared/doc/02-wire.md.
package wire

import (
	"slices"

	"leafmesh/api"
)

// maxLimit is the greatest limit of a writer, markSize the number of bytes of a mark, maxLength the greatest length that fits in them.
const (
	maxLimit  = 1 << 16
	markSize  = 2
	maxLength = 1<<(8*markSize) - 1
)

// Writer appends numbers to a buffer, up to a limit. Its marks are the offsets of the lengths that are still open.
type Writer struct {
	limit int
	out   []byte
	marks map[int]struct{}
}

// unsigned is a type of the numbers that are written.
type unsigned interface {
	~uint8 | ~uint16 | ~uint32 | ~uint64
}

// NewWriter returns an empty writer.
func NewWriter(limit int) (*Writer, api.Errno) {
	if limit < 0 || limit > maxLimit {
		return nil, api.ErrRange
	}
	return &Writer{limit: limit, marks: map[int]struct{}{}}, api.OK
}

// valid reports whether NewWriter has made w: a zero struct has no map of marks.
func (w *Writer) valid() bool { return w != nil && w.marks != nil }

// U8 appends a number of one byte.
func (w *Writer) U8(n uint64) api.Errno { return w.number(n, 1) }

// U16 appends a number of two bytes.
func (w *Writer) U16(n uint64) api.Errno { return w.number(n, 2) }

// U24 appends a number of three bytes.
func (w *Writer) U24(n uint64) api.Errno { return w.number(n, 3) }

// U32 appends a number of four bytes.
func (w *Writer) U32(n uint64) api.Errno { return w.number(n, 4) }

// U48 appends a number of six bytes.
func (w *Writer) U48(n uint64) api.Errno { return w.number(n, 6) }

// U64 appends a number of eight bytes.
func (w *Writer) U64(n uint64) api.Errno { return w.number(n, 8) }

// Bytes appends bytes.
func (w *Writer) Bytes(b []byte) api.Errno {
	space, err := w.extend(len(b))
	copy(space, b)
	return err
}

// Mark reserves two bytes for a length.
func (w *Writer) Mark() (int, api.Errno) {
	at := w.Len()
	if _, err := w.extend(markSize); err != api.OK {
		return 0, err
	}
	w.marks[at] = struct{}{}
	return at, api.OK
}

// Patch writes a length into a mark.
func (w *Writer) Patch(at int) api.Errno {
	if !w.valid() {
		return api.ErrNil
	}
	if _, open := w.marks[at]; !open {
		return api.ErrMark
	}
	start := at + markSize
	length := len(w.out) - start
	// No limit that NewWriter accepts leaves room for so many bytes; a greater one must not cut the length off.
	if length > maxLength {
		return api.ErrLong
	}
	put(w.out[at:start], uint16(length))
	delete(w.marks, at)
	return api.OK
}

// Len returns the number of bytes written.
func (w *Writer) Len() int {
	if !w.valid() {
		return 0
	}
	return len(w.out)
}

// Out returns the bytes written.
func (w *Writer) Out() []byte {
	if !w.valid() {
		return nil
	}
	return slices.Clone(w.out)
}

// number appends n in size bytes.
func (w *Writer) number(n uint64, size int) api.Errno {
	// Eight bytes hold any number: nothing is left of it after the shift.
	if w.valid() && n>>(8*size) != 0 {
		return api.ErrRange
	}
	space, err := w.extend(size)
	put(space, n)
	return err
}

// extend appends n zero bytes and returns the part of the buffer that they are; with an error, there is none.
func (w *Writer) extend(n int) ([]byte, api.Errno) {
	if !w.valid() {
		return nil, api.ErrNil
	}
	start := len(w.out)
	if n > w.limit-start {
		return nil, api.ErrFull
	}
	w.out = append(w.out, make([]byte, n)...)
	return w.out[start:], api.OK
}

// put writes n into all bytes of b, most significant byte first.
func put[N unsigned](b []byte, n N) {
	for i := range b {
		b[len(b)-1-i] = byte(n >> (8 * i))
	}
}
