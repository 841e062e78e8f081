package wire

import (
	"slices"

	"leafmesh/api"
)

// span is the positions of a reader, as offsets in the bytes that were passed to NewReader: of its first byte, of the next one to be read, and of the end.
type span struct{ start, at, end int }

// left returns the number of bytes that are left.
func (s *span) left() int { return s.end - s.at }

// advance moves on by n bytes, and returns where these are among the reader's own bytes.
func (s *span) advance(n int) (from, to int) {
	from = s.at - s.start
	s.at += n
	return from, from + n
}

// Reader reads numbers from bytes, and keeps the first fault.
type Reader struct {
	span
	own   []byte
	fault api.Fault
}

// NewReader returns a reader.
func NewReader(b []byte) *Reader { return readerAt(0, b) }

// readerAt returns a reader of a copy of b, which is at a position.
func readerAt(at int, b []byte) *Reader {
	return &Reader{
		span: span{start: at, at: at, end: at + len(b)},
		// Even without bytes this is not nil, as it is in a zero struct.
		own: append([]byte{}, b...),
	}
}

func (r *Reader) valid() bool { return r != nil && r.own != nil }

// U8 reads a number of one byte.
func (r *Reader) U8() uint64 { return get(r.take(1)) }

// U16 reads a number of two bytes.
func (r *Reader) U16() uint64 { return get(r.take(2)) }

// U24 reads a number of three bytes.
func (r *Reader) U24() uint64 { return get(r.take(3)) }

// U32 reads a number of four bytes.
func (r *Reader) U32() uint64 { return get(r.take(4)) }

// U48 reads a number of six bytes.
func (r *Reader) U48() uint64 { return get(r.take(6)) }

// U64 reads a number of eight bytes.
func (r *Reader) U64() uint64 { return get(r.take(8)) }

// Bytes reads bytes.
func (r *Reader) Bytes(n int) []byte { return slices.Clone(r.take(n)) }

// Sub returns a reader of the next bytes.
func (r *Reader) Sub(n int) *Reader {
	if !r.valid() {
		return nil
	}
	at := r.at
	sub := readerAt(at, r.take(n))
	// There is no fault if the bytes could be taken.
	sub.fault = r.fault
	return sub
}

// Left returns the number of bytes that are left.
func (r *Reader) Left() int {
	if !r.valid() {
		return 0
	}
	return r.left()
}

// At returns the position.
func (r *Reader) At() int {
	if !r.valid() {
		return 0
	}
	return r.at
}

// Fail sets the fault, unless there is one.
func (r *Reader) Fail(e api.Errno) {
	if r.valid() && e != api.OK && r.fault.Err == api.OK {
		r.fault = api.Fault{Err: e, At: r.at}
	}
}

// Fault returns the first fault.
func (r *Reader) Fault() api.Fault {
	if !r.valid() {
		return api.Fault{Err: api.ErrNil}
	}
	return r.fault
}

// take advances by n bytes and returns them, without copying them; with a fault, it returns nil.
func (r *Reader) take(n int) []byte {
	if r.Fault().Err != api.OK {
		return nil
	}
	if n < 0 || n > r.left() {
		r.Fail(api.ErrShort)
		return nil
	}
	from, to := r.advance(n)
	return r.own[from:to]
}

// get returns the number whose bytes are given, most significant byte first.
func get(b []byte) uint64 {
	var n uint64
	for _, x := range b {
		n = n<<8 | uint64(x)
	}
	return n
}
