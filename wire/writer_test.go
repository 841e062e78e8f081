package wire_test

import (
	"bytes"
	"encoding/binary"
	"math"
	"math/rand/v2"
	"slices"
	"testing"

	"leafmesh/api"
	"leafmesh/wire"
)

// sizes are the methods for numbers, with the numbers of bytes that the document gives them.
var sizes = []struct {
	bytes int
	write func(*wire.Writer, uint64) api.Errno
	read  func(*wire.Reader) uint64
}{
	{1, (*wire.Writer).U8, (*wire.Reader).U8},
	{2, (*wire.Writer).U16, (*wire.Reader).U16},
	{3, (*wire.Writer).U24, (*wire.Reader).U24},
	{4, (*wire.Writer).U32, (*wire.Reader).U32},
	{6, (*wire.Writer).U48, (*wire.Reader).U48},
	{8, (*wire.Writer).U64, (*wire.Reader).U64},
}

// ints are numbers at the edges of limits, offsets and lengths, and far outside of them.
var ints = []int{math.MinInt, math.MinInt32, -65536, -3, -2, -1, 0, 1, 2, 3, 4, 255, 256, 65533, 65534, 65535, 65536, 65537, math.MaxInt32, math.MaxUint32, math.MaxInt - 1, math.MaxInt}

// numbers returns the numbers around each power of two, and some with different bytes.
func numbers() []uint64 {
	out := []uint64{0, 0x01, 0x0102, 0x010203, 0x01020304, 0x010203040506, 0x0102030405060708, 0xf1f2f3f4f5f6f7f8, math.MaxUint64}
	for bit := range 64 {
		out = append(out, 1<<bit-1, 1<<bit, 1<<bit+1)
	}
	return out
}

// fits reports whether n is less than 256 to the power of size.
func fits(n uint64, size int) bool {
	for range size {
		n /= 256
	}
	return n == 0
}

// encoded returns the last size of the eight bytes of n.
func encoded(n uint64, size int) []byte {
	return binary.BigEndian.AppendUint64(nil, n)[8-size:]
}

// newWriter returns a writer with a limit that is valid.
func newWriter(t *testing.T, limit int) *wire.Writer {
	t.Helper()
	w, err := wire.NewWriter(limit)
	if w == nil || err != api.OK {
		t.Fatalf("NewWriter(%d) = %v %v", limit, w, err)
	}
	return w
}

// holds checks what has been written.
func holds(t *testing.T, w *wire.Writer, want []byte) {
	t.Helper()
	if got := w.Out(); !bytes.Equal(got, want) || w.Len() != len(want) {
		t.Fatalf("%d bytes: % x, want % x", w.Len(), got, want)
	}
}

// P2.1: the limits that NewWriter accepts.
func TestNewWriter(t *testing.T) {
	for _, limit := range ints {
		w, err := wire.NewWriter(limit)
		if limit < 0 || limit > 65536 {
			if w != nil || err != api.ErrRange {
				t.Errorf("NewWriter(%d) = %v %v", limit, w, err)
			}
			continue
		}
		if w == nil || err != api.OK {
			t.Fatalf("NewWriter(%d) = %v %v", limit, w, err)
		}
		holds(t, w, nil)
	}
}

// P2.1: a writer accepts exactly as many bytes as its limit says.
func TestLimit(t *testing.T) {
	for _, limit := range []int{0, 1, 2, 3, 7, 8, 4096, 65535, 65536} {
		w := newWriter(t, limit)
		for range limit {
			if err := w.U8(9); err != api.OK {
				t.Fatalf("limit %d: %v after %d bytes", limit, err, w.Len())
			}
		}
		full := bytes.Repeat([]byte{9}, limit)
		for _, s := range sizes {
			if err := s.write(w, 1); err != api.ErrFull {
				t.Errorf("limit %d: %d more bytes: %v", limit, s.bytes, err)
			}
		}
		if err := w.Bytes([]byte{1}); err != api.ErrFull {
			t.Errorf("limit %d: Bytes: %v", limit, err)
		}
		if at, err := w.Mark(); at != 0 || err != api.ErrFull {
			t.Errorf("limit %d: Mark: %d %v", limit, at, err)
		}
		if err := w.Bytes(nil); err != api.OK {
			t.Errorf("limit %d: no bytes: %v", limit, err)
		}
		holds(t, w, full)
	}
}

// P2.1: numbers that fit are appended, others give ErrRange and append nothing.
func TestNumbers(t *testing.T) {
	for _, s := range sizes {
		w := newWriter(t, 65536)
		var want []byte
		for _, n := range numbers() {
			fault := api.ErrRange
			if fits(n, s.bytes) {
				fault = api.OK
				want = append(want, encoded(n, s.bytes)...)
			}
			if err := s.write(w, n); err != fault {
				t.Errorf("%x in %d bytes: %v", n, s.bytes, err)
			}
			holds(t, w, want)
		}
	}
}

// P2.1: a number is appended if there is room for all of its bytes; one that does not fit gives ErrRange also without room.
func TestRoomForNumbers(t *testing.T) {
	for _, s := range sizes {
		for room := range 2 * s.bytes {
			w := newWriter(t, 5+room)
			w.Bytes([]byte("start"))
			if s.bytes < 8 {
				if err := s.write(w, 1<<(8*s.bytes)); err != api.ErrRange {
					t.Errorf("%d bytes, room for %d: %v", s.bytes, room, err)
				}
			}
			want, fault := []byte("start"), api.ErrFull
			if room >= s.bytes {
				want, fault = append(want, encoded(7, s.bytes)...), api.OK
			}
			if err := s.write(w, 7); err != fault {
				t.Errorf("%d bytes, room for %d: %v", s.bytes, room, err)
			}
			holds(t, w, want)
		}
	}
}

// P2.1: Bytes appends all of the bytes or none.
func TestWriteBytes(t *testing.T) {
	for length := range 12 {
		for limit := range 12 {
			w := newWriter(t, limit)
			b := []byte("abcdefghijkl")[:length]
			err := w.Bytes(b)
			if length > limit {
				if err != api.ErrFull {
					t.Errorf("%d bytes, limit %d: %v", length, limit, err)
				}
				b = nil
			} else if err != api.OK {
				t.Errorf("%d bytes, limit %d: %v", length, limit, err)
			}
			holds(t, w, b)
		}
	}
	w := newWriter(t, 65536)
	if err := w.Bytes(make([]byte, 65537)); err != api.ErrFull {
		t.Error("too many bytes:", err)
	}
	if err := w.Bytes(make([]byte, 65536)); err != api.OK {
		t.Error("as many bytes as can be:", err)
	}
	holds(t, w, make([]byte, 65536))
}

// P2.1 and rule R4: Out is a copy, and what Bytes is given is copied.
func TestWriterSharesNothing(t *testing.T) {
	w := newWriter(t, 100)
	b := make([]byte, 3, 100)
	w.Bytes(b)
	b[0] = 1
	out := w.Out()
	out[1] = 2
	_ = append(out[:2], 9, 9, 9)
	holds(t, w, []byte{0, 0, 0})
	// Neither do later calls change what was returned before.
	first := w.Out()
	at, _ := w.Mark()
	w.U8(5)
	w.Patch(at)
	if !bytes.Equal(first, []byte{0, 0, 0}) || !bytes.Equal(b, []byte{1, 0, 0}) {
		t.Errorf("% x, % x", first, b)
	}
	holds(t, w, []byte{0, 0, 0, 0, 1, 5})
}

// P2.1, P2.2 and rule R2: invalid writers.
func TestInvalidWriter(t *testing.T) {
	for _, w := range []*wire.Writer{nil, {}} {
		for range 2 {
			for _, s := range sizes {
				for _, n := range numbers() {
					if err := s.write(w, n); err != api.ErrNil {
						t.Errorf("%x in %d bytes: %v", n, s.bytes, err)
					}
				}
			}
			for _, b := range [][]byte{nil, {}, {1}, make([]byte, 70000)} {
				if err := w.Bytes(b); err != api.ErrNil {
					t.Error("Bytes:", err)
				}
			}
			if at, err := w.Mark(); at != 0 || err != api.ErrNil {
				t.Error("Mark:", at, err)
			}
			for _, at := range ints {
				if err := w.Patch(at); err != api.ErrNil {
					t.Error("Patch:", err)
				}
			}
			if w.Len() != 0 || w.Out() != nil {
				t.Error("Len, Out:", w.Len(), w.Out())
			}
		}
	}
}

// P2.2: Mark needs room for two bytes, appends zeros, and returns their offset.
func TestMark(t *testing.T) {
	for start := range 5 {
		for room := range 5 {
			w := newWriter(t, start+room)
			want := []byte("abcde")[:start:start]
			w.Bytes(want)
			at, err := w.Mark()
			if room < 2 {
				if at != 0 || err != api.ErrFull {
					t.Errorf("at %d, room for %d: %d %v", start, room, at, err)
				}
				if err := w.Patch(start); err != api.ErrMark {
					t.Errorf("at %d, room for %d: there is a mark: %v", start, room, err)
				}
			} else {
				if at != start || err != api.OK {
					t.Errorf("at %d, room for %d: %d %v", start, room, at, err)
				}
				want = append(want, 0, 0)
			}
			holds(t, w, want)
		}
	}
}

// P2.2: only an open mark can be patched, and only once; zeros that were written otherwise are no mark.
func TestPatchErrors(t *testing.T) {
	w := newWriter(t, 100)
	for _, at := range ints {
		if err := w.Patch(at); err != api.ErrMark {
			t.Errorf("Patch(%d) of nothing: %v", at, err)
		}
	}
	w.U24(0x010203)
	mark, _ := w.Mark()
	w.U16(0)
	if mark != 3 {
		t.Fatal("mark", mark)
	}
	others := slices.DeleteFunc(slices.Clone(ints), func(at int) bool { return at == mark })
	for _, at := range append(others, 5, 6, 7, 8, 100, mark+1<<32) {
		if err := w.Patch(at); err != api.ErrMark {
			t.Errorf("Patch(%d): %v", at, err)
		}
	}
	holds(t, w, []byte{1, 2, 3, 0, 0, 0, 0})
	if err := w.Patch(mark); err != api.OK {
		t.Error("Patch of the mark:", err)
	}
	for _, at := range append(others, mark, 5, 6, 7, 8, 100, mark+1<<32) {
		if err := w.Patch(at); err != api.ErrMark {
			t.Errorf("Patch(%d) afterwards: %v", at, err)
		}
	}
	holds(t, w, []byte{1, 2, 3, 0, 2, 0, 0})
}

// P2.2: the length is that of all that follows the mark when it is patched, up to the limit; what is written later does not change it.
func TestPatchLengths(t *testing.T) {
	for _, length := range []int{0, 1, 2, 255, 256, 257, 0x1234, 65533, 65534} {
		w := newWriter(t, 65536)
		at, _ := w.Mark()
		body := bytes.Repeat([]byte{0xee}, length)
		w.Bytes(body)
		if err := w.Patch(at); err != api.OK {
			t.Errorf("length %d: %v", length, err)
		}
		want := append(encoded(uint64(length), 2), body...)
		holds(t, w, want)
		if w.U8(1) == api.OK {
			want = append(want, 1)
		}
		if err := w.Patch(at); err != api.ErrMark {
			t.Errorf("length %d, again: %v", length, err)
		}
		holds(t, w, want)
	}
}

// P2.2: marks may be patched in any order.
func TestPatchOrder(t *testing.T) {
	for _, order := range [][]int{{0, 3, 5}, {0, 5, 3}, {3, 0, 5}, {3, 5, 0}, {5, 0, 3}, {5, 3, 0}} {
		w := newWriter(t, 9)
		w.Mark()
		w.U8(0xaa)
		w.Mark()
		w.Mark()
		w.U16(0xbbcc)
		want := []byte{0, 0, 0xaa, 0, 0, 0, 0, 0xbb, 0xcc}
		for _, at := range order {
			if err := w.Patch(at); err != api.OK {
				t.Errorf("%v: Patch(%d): %v", order, at, err)
			}
			want[at+1] = byte(9 - at - 2)
			holds(t, w, want)
		}
	}
}

// P2.2 and promise P2: the marks of a writer are its own.
func TestMarksOfTwoWriters(t *testing.T) {
	v, w := newWriter(t, 10), newWriter(t, 10)
	at, _ := v.Mark()
	w.U16(0)
	if err := w.Patch(at); err != api.ErrMark {
		t.Error(err)
	}
	w.U8(1)
	if err := v.Patch(at); err != api.OK {
		t.Error(err)
	}
	holds(t, v, []byte{0, 0})
	holds(t, w, []byte{0, 0, 1})
}

// The examples of the chapter.
func TestWriterExamples(t *testing.T) {
	w := newWriter(t, 100)
	if a, b, c := w.U16(258), w.U24(1), w.U8(256); a != api.OK || b != api.OK || c != api.ErrRange {
		t.Error(a, b, c)
	}
	holds(t, w, []byte{1, 2, 0, 0, 1})
	w = newWriter(t, 4)
	if at, err := w.Mark(); at != 0 || err != api.OK {
		t.Error(at, err)
	}
	if a, b, c, d := w.U8(7), w.U8(8), w.U8(9), w.Patch(0); a != api.OK || b != api.OK || c != api.ErrFull || d != api.OK {
		t.Error(a, b, c, d)
	}
	holds(t, w, []byte{0, 2, 7, 8})
	if err := w.Patch(0); err != api.ErrMark {
		t.Error(err)
	}
}

// writerModel is a writer as the contracts describe it.
type writerModel struct {
	limit int
	out   []byte
	open  []int
}

func (m *writerModel) append(b []byte) api.Errno {
	if len(m.out)+len(b) > m.limit {
		return api.ErrFull
	}
	m.out = append(m.out, b...)
	return api.OK
}

func (m *writerModel) mark() (int, api.Errno) {
	at := len(m.out)
	if err := m.append([]byte{0, 0}); err != api.OK {
		return 0, err
	}
	m.open = append(m.open, at)
	return at, api.OK
}

func (m *writerModel) patch(at int) api.Errno {
	i := slices.Index(m.open, at)
	if i < 0 {
		return api.ErrMark
	}
	m.open = slices.Delete(m.open, i, i+1)
	copy(m.out[at:], encoded(uint64(len(m.out)-at-2), 2))
	return api.OK
}

// write makes a call of any sort on a writer and on its model, and returns the errors of both.
func write(t *testing.T, rnd *rand.Rand, w *wire.Writer, m *writerModel) (got, want api.Errno) {
	t.Helper()
	switch rnd.IntN(4) {
	case 0:
		s := sizes[rnd.IntN(len(sizes))]
		n := rnd.Uint64() >> rnd.IntN(64)
		if !fits(n, s.bytes) {
			return s.write(w, n), api.ErrRange
		}
		return s.write(w, n), m.append(encoded(n, s.bytes))
	case 1:
		b := encoded(rnd.Uint64(), rnd.IntN(6))
		return w.Bytes(b), m.append(b)
	case 2:
		at, got := w.Mark()
		place, want := m.mark()
		if at != place {
			t.Fatalf("mark at %d, want %d", at, place)
		}
		return got, want
	}
	at := rnd.IntN(m.limit+6) - 3
	if len(m.open) > 0 && rnd.IntN(2) == 0 {
		at = m.open[rnd.IntN(len(m.open))]
	}
	return w.Patch(at), m.patch(at)
}

// P2.1, P2.2 and rule R3 and promise P2: any sequence of calls has the results that the contracts describe, also when it is repeated.
func TestWriterSequences(t *testing.T) {
	for seed := range uint64(600) {
		for range 2 {
			rnd := rand.New(rand.NewPCG(seed, 2))
			m := &writerModel{limit: rnd.IntN(80)}
			w := newWriter(t, m.limit)
			for step := range 60 {
				if got, want := write(t, rnd, w, m); got != want {
					t.Fatalf("seed %d, step %d: %v, want %v", seed, step, got, want)
				}
				holds(t, w, m.out)
			}
		}
	}
}
