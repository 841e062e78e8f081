package wire_test

import (
	"bytes"
	"encoding/binary"
	"math"
	"math/rand/v2"
	"testing"

	"leafmesh/api"
	"leafmesh/wire"
)

// none is no fault.
var none api.Fault

// stands checks the position of a reader, the number of bytes that are left, and its fault, twice, since asking changes nothing.
func stands(t *testing.T, r *wire.Reader, at, left int, fault api.Fault) {
	t.Helper()
	for range 2 {
		if r.At() != at || r.Left() != left || r.Fault() != fault {
			t.Fatalf("at %d, %d left, fault %v; want %d, %d, %v", r.At(), r.Left(), r.Fault(), at, left, fault)
		}
	}
}

// count returns the bytes 1, 2 and so on.
func count(n int) []byte {
	b := make([]byte, n)
	for i := range b {
		b[i] = byte(i + 1)
	}
	return b
}

// decoded returns the number whose bytes are given.
func decoded(b []byte) uint64 {
	return binary.BigEndian.Uint64(append(make([]byte, 8-len(b)), b...))
}

// P2.3: a new reader is at position 0, also without bytes.
func TestNewReader(t *testing.T) {
	for _, b := range [][]byte{nil, {}, {0}, count(5), make([]byte, 100000)} {
		r := wire.NewReader(b)
		if r == nil {
			t.Fatal("no reader")
		}
		stands(t, r, 0, len(b), none)
	}
}

// P2.3: numbers are read one after the other, most significant byte first.
func TestReadNumbers(t *testing.T) {
	b := []byte{0x01, 0xf2, 0x03, 0x84, 0x05, 0x06, 0xff, 0x08, 0x00, 0x0a, 0x7b, 0x0c, 0xed, 0x0e, 0x0f, 0x10, 0x91, 0x12, 0x13, 0x14, 0x15, 0x16, 0x17, 0x18}
	for _, s := range sizes {
		r := wire.NewReader(b)
		for at := 0; at < len(b); at += s.bytes {
			stands(t, r, at, len(b)-at, none)
			if n, want := s.read(r), decoded(b[at:at+s.bytes]); n != want {
				t.Errorf("%d bytes at %d: %x, want %x", s.bytes, at, n, want)
			}
		}
		stands(t, r, len(b), 0, none)
		if n := s.read(r); n != 0 {
			t.Errorf("%d bytes at the end: %x", s.bytes, n)
		}
		stands(t, r, len(b), 0, api.Fault{Err: api.ErrShort, At: len(b)})
	}
}

// P2.3: without enough bytes, a number is 0, the fault is ErrShort at the position, and nothing is read.
func TestShortNumbers(t *testing.T) {
	for _, s := range sizes {
		for left := range 2 * s.bytes {
			r := wire.NewReader(count(2 + left))
			r.U16()
			n := s.read(r)
			if left >= s.bytes {
				if want := decoded(count(2 + s.bytes)[2:]); n != want {
					t.Errorf("%d bytes of %d: %x", s.bytes, left, n)
				}
				stands(t, r, 2+s.bytes, left-s.bytes, none)
				continue
			}
			if n != 0 {
				t.Errorf("%d bytes of %d: %x", s.bytes, left, n)
			}
			stands(t, r, 2, left, api.Fault{Err: api.ErrShort, At: 2})
		}
	}
}

// lengths returns numbers of bytes, possible and not, of a reader with 9 bytes.
func lengths() []int { return append([]int{5, 6, 7, 8, 9, 10, 11, 12}, ints...) }

// P2.3: Bytes returns the next bytes, or none and ErrShort.
func TestReadBytes(t *testing.T) {
	for _, n := range lengths() {
		for start := range 4 {
			b := count(9)
			r := wire.NewReader(b)
			r.Bytes(start)
			got := r.Bytes(n)
			if n < 0 || n > 9-start {
				if len(got) != 0 {
					t.Errorf("%d bytes at %d: % x", n, start, got)
				}
				stands(t, r, start, 9-start, api.Fault{Err: api.ErrShort, At: start})
				continue
			}
			if !bytes.Equal(got, b[start:start+n]) {
				t.Errorf("%d bytes at %d: % x", n, start, got)
			}
			stands(t, r, start+n, 9-start-n, none)
		}
	}
}

// P2.3: Sub returns a reader of the next bytes, or one without bytes and with the same fault.
func TestSub(t *testing.T) {
	for _, n := range lengths() {
		for start := range 4 {
			b := count(9)
			r := wire.NewReader(b)
			r.Bytes(start)
			sub := r.Sub(n)
			if n < 0 || n > 9-start {
				short := api.Fault{Err: api.ErrShort, At: start}
				stands(t, r, start, 9-start, short)
				stands(t, sub, start, 0, short)
				continue
			}
			stands(t, r, start+n, 9-start-n, none)
			stands(t, sub, start, n, none)
			if got := sub.Bytes(n); !bytes.Equal(got, b[start:start+n]) {
				t.Errorf("sub of %d bytes at %d: % x", n, start, got)
			}
			stands(t, sub, start+n, 0, none)
			if got := sub.U8(); got != 0 {
				t.Errorf("sub of %d bytes at %d: %x behind its end", n, start, got)
			}
			stands(t, sub, start+n, 0, api.Fault{Err: api.ErrShort, At: start + n})
			stands(t, r, start+n, 9-start-n, none)
		}
	}
}

// P2.3: the positions of readers within readers are offsets in the bytes passed to NewReader.
func TestSubOfSub(t *testing.T) {
	r := wire.NewReader(count(20))
	r.U24()
	outer := r.Sub(10)
	outer.U16()
	inner := outer.Sub(4)
	if n := inner.U8(); n != 6 {
		t.Error(n)
	}
	stands(t, inner, 6, 3, none)
	if n := inner.U32(); n != 0 {
		t.Error(n)
	}
	stands(t, inner, 6, 3, api.Fault{Err: api.ErrShort, At: 6})
	empty := inner.Sub(0)
	stands(t, empty, 6, 0, api.Fault{Err: api.ErrShort, At: 6})
	stands(t, outer, 9, 4, none)
	if n := outer.U32(); n != 0x0a0b0c0d {
		t.Errorf("%x", n)
	}
	stands(t, outer, 13, 0, none)
	if n := r.U8(); n != 14 {
		t.Error(n)
	}
	stands(t, r, 14, 6, none)
}

// P2.3: with a fault, everything read is zero, and nothing changes.
func TestReadWithFault(t *testing.T) {
	for _, e := range []api.Errno{api.ErrNil, api.ErrShort, api.ErrForm, api.ErrTime, 21, -1, math.MinInt} {
		r := wire.NewReader(count(20))
		r.U16()
		r.Fail(e)
		fault := api.Fault{Err: e, At: 2}
		stands(t, r, 2, 18, fault)
		for _, s := range sizes {
			if n := s.read(r); n != 0 {
				t.Errorf("%d bytes: %x", s.bytes, n)
			}
			stands(t, r, 2, 18, fault)
		}
		for _, n := range lengths() {
			if b := r.Bytes(n); len(b) != 0 {
				t.Errorf("Bytes(%d) = % x", n, b)
			}
			sub := r.Sub(n)
			stands(t, sub, 2, 0, fault)
			if x := sub.U8(); x != 0 {
				t.Errorf("Sub(%d) read %x", n, x)
			}
			stands(t, sub, 2, 0, fault)
			stands(t, r, 2, 18, fault)
		}
	}
}

// P2.3: Fail sets the first fault only, and OK is none.
func TestFail(t *testing.T) {
	r := wire.NewReader(count(3))
	r.Fail(api.OK)
	stands(t, r, 0, 3, none)
	if n := r.U8(); n != 1 {
		t.Error(n)
	}
	r.Fail(api.OK)
	r.Fail(api.ErrForm)
	first := api.Fault{Err: api.ErrForm, At: 1}
	stands(t, r, 1, 2, first)
	for _, e := range []api.Errno{api.OK, api.ErrType, api.ErrForm} {
		r.Fail(e)
		stands(t, r, 1, 2, first)
	}
	short := wire.NewReader(count(3))
	short.U32()
	short.Fail(api.ErrForm)
	stands(t, short, 0, 3, api.Fault{Err: api.ErrShort, At: 0})
	end := wire.NewReader(nil)
	end.Fail(api.ErrType)
	stands(t, end, 0, 0, api.Fault{Err: api.ErrType, At: 0})
}

// P2.3 and rule R2: invalid readers.
func TestInvalidReader(t *testing.T) {
	for _, r := range []*wire.Reader{nil, {}} {
		for range 2 {
			for _, s := range sizes {
				if n := s.read(r); n != 0 {
					t.Errorf("%d bytes: %x", s.bytes, n)
				}
			}
			for _, n := range lengths() {
				if b, sub := r.Bytes(n), r.Sub(n); b != nil || sub != nil {
					t.Errorf("%d bytes: %v, %v", n, b, sub)
				}
			}
			r.Fail(api.ErrForm)
			stands(t, r, 0, 0, api.Fault{Err: api.ErrNil})
		}
	}
}

// P2.3 and rule R4: a reader has a copy of its bytes, and so have its results.
func TestReaderSharesNothing(t *testing.T) {
	b := count(8)
	r, again := wire.NewReader(b), wire.NewReader(b)
	sub := r.Sub(4)
	clear(b)
	got := sub.Bytes(2)
	clear(got)
	_ = append(got, 9, 9, 9, 9)
	if x, y := sub.U16(), r.U32(); x != 0x0304 || y != 0x05060708 {
		t.Errorf("%x, %x", x, y)
	}
	if x := again.U64(); x != 0x0102030405060708 {
		t.Errorf("%x", x)
	}
	if x := wire.NewReader(b).U64(); x != 0 {
		t.Errorf("%x", x)
	}
}

// The examples of the chapter.
func TestReaderExamples(t *testing.T) {
	r := wire.NewReader([]byte{1, 2, 3})
	if a, b, c := r.U16(), r.U16(), r.U8(); a != 258 || b != 0 || c != 0 {
		t.Error(a, b, c)
	}
	stands(t, r, 2, 1, api.Fault{Err: api.ErrShort, At: 2})
	r = wire.NewReader([]byte{1, 2, 3, 4})
	if n := r.U8(); n != 1 {
		t.Error(n)
	}
	sub := r.Sub(2)
	if n := sub.U8(); n != 2 {
		t.Error(n)
	}
	stands(t, sub, 2, 1, none)
	if n := sub.U16(); n != 0 {
		t.Error(n)
	}
	stands(t, sub, 2, 1, api.Fault{Err: api.ErrShort, At: 2})
	if n := r.U8(); n != 4 {
		t.Error(n)
	}
}

// P2.4: reading the same sequence of sizes returns the numbers that were written.
func TestReadingWhatIsWritten(t *testing.T) {
	for seed := range uint64(300) {
		rnd := rand.New(rand.NewPCG(seed, 4))
		w := newWriter(t, 65536)
		var order []int
		var written []uint64
		for range rnd.IntN(100) {
			i := rnd.IntN(len(sizes))
			// Numbers of all magnitudes that fit.
			n := rnd.Uint64() >> (64 - 8*sizes[i].bytes + rnd.IntN(8*sizes[i].bytes))
			if err := sizes[i].write(w, n); err != api.OK {
				t.Fatalf("seed %d: %x in %d bytes: %v", seed, n, sizes[i].bytes, err)
			}
			order, written = append(order, i), append(written, n)
		}
		r := wire.NewReader(w.Out())
		for k, i := range order {
			if n := sizes[i].read(r); n != written[k] {
				t.Fatalf("seed %d: %d bytes: %x, want %x", seed, sizes[i].bytes, n, written[k])
			}
		}
		stands(t, r, w.Len(), 0, none)
	}
}

// P2.4: this holds for numbers at all edges, for bytes, and for lengths in marks.
func TestReadingMarksAndBytes(t *testing.T) {
	for _, s := range sizes {
		for _, n := range numbers() {
			w := newWriter(t, 100)
			if s.write(w, n) != api.OK {
				continue
			}
			at, _ := w.Mark()
			w.Bytes([]byte("body"))
			w.Patch(at)
			w.U8(0xfe)
			r := wire.NewReader(w.Out())
			if got := s.read(r); got != n {
				t.Errorf("%x in %d bytes: %x", n, s.bytes, got)
			}
			body := r.Sub(int(r.U16()))
			if got := body.Bytes(body.Left()); string(got) != "body" {
				t.Errorf("%q", got)
			}
			if got := r.U8(); got != 0xfe {
				t.Errorf("%x", got)
			}
			stands(t, r, s.bytes+7, 0, none)
		}
	}
}

// P2.5: the readers of consecutive lengths read together what the reader itself would have read.
func TestConsecutiveSubs(t *testing.T) {
	for seed := range uint64(300) {
		rnd := rand.New(rand.NewPCG(seed, 5))
		b := count(rnd.IntN(60))
		r, whole := wire.NewReader(b), wire.NewReader(b)
		for r.Left() > 0 {
			n := rnd.IntN(r.Left() + 1)
			at := r.At()
			sub := r.Sub(n)
			stands(t, sub, at, n, none)
			if want := whole.Bytes(n); !bytes.Equal(sub.Bytes(n), want) {
				t.Fatalf("seed %d: %d bytes at %d differ from % x", seed, n, at, want)
			}
			stands(t, r, whole.At(), whole.Left(), none)
			stands(t, sub, whole.At(), 0, none)
		}
		stands(t, r, len(b), 0, none)
	}
}

// P2.5: a fault of a reader that Sub returned does not change the reader it came from, nor does one of this change the other.
func TestFaultsOfSubs(t *testing.T) {
	r := wire.NewReader(count(6))
	first := r.Sub(2)
	second := r.Sub(2)
	first.Fail(api.ErrForm)
	if n := second.U24(); n != 0 {
		t.Error(n)
	}
	stands(t, first, 0, 2, api.Fault{Err: api.ErrForm, At: 0})
	stands(t, second, 2, 2, api.Fault{Err: api.ErrShort, At: 2})
	stands(t, r, 4, 2, none)
	third := r.Sub(1)
	r.Fail(api.ErrType)
	if n := third.U8(); n != 5 {
		t.Error(n)
	}
	stands(t, third, 5, 0, none)
	failed := r.Sub(1)
	failed.Fail(api.ErrForm)
	stands(t, failed, 5, 0, api.Fault{Err: api.ErrType, At: 5})
	stands(t, r, 5, 1, api.Fault{Err: api.ErrType, At: 5})
}

// readerModel is a reader as the contracts describe it: a range of bytes, and the fault.
type readerModel struct {
	bytes   []byte
	at, end int
	fault   api.Fault
}

// take returns the next n bytes, if they can be read.
func (m *readerModel) take(n int) []byte {
	if m.fault.Err != api.OK {
		return nil
	}
	if n < 0 || n > m.end-m.at {
		m.fault = api.Fault{Err: api.ErrShort, At: m.at}
		return nil
	}
	m.at += n
	return m.bytes[m.at-n : m.at]
}

func (m *readerModel) sub(n int) *readerModel {
	at := m.at
	m.take(n)
	return &readerModel{bytes: m.bytes, at: at, end: m.at, fault: m.fault}
}

func (m *readerModel) fail(e api.Errno) {
	if m.fault.Err == api.OK && e != api.OK {
		m.fault = api.Fault{Err: e, At: m.at}
	}
}

// read makes a call of any sort on a reader and on its model, and compares the results; if it is Sub, it returns these.
func read(t *testing.T, rnd *rand.Rand, r *wire.Reader, m *readerModel) (*wire.Reader, *readerModel) {
	t.Helper()
	// Most lengths can be read.
	n := rnd.IntN(m.end-m.at+3) / (1 + rnd.IntN(4))
	if rnd.IntN(20) == 0 {
		n = -1 - n
	}
	switch rnd.IntN(8) {
	case 0:
		return r.Sub(n), m.sub(n)
	case 1, 2:
		if got, want := r.Bytes(n), m.take(n); !bytes.Equal(got, want) {
			t.Fatalf("Bytes(%d) = % x, want % x", n, got, want)
		}
	case 3:
		// Mostly OK, so that not all readers soon have a fault.
		e := api.Errno(max(0, rnd.IntN(60)-39))
		r.Fail(e)
		m.fail(e)
	default:
		size := sizes[rnd.IntN(len(sizes))]
		if got, want := size.read(r), decoded(m.take(size.bytes)); got != want {
			t.Fatalf("%d bytes: %x, want %x", size.bytes, got, want)
		}
	}
	return nil, nil
}

// P2.3, P2.5, rule R3 and promise P2: any sequence of calls on a reader, and on those within it, has the results that the contracts describe, also when it is repeated.
func TestReaderSequences(t *testing.T) {
	for seed := range uint64(600) {
		for range 2 {
			rnd := rand.New(rand.NewPCG(seed, 3))
			b := count(rnd.IntN(60))
			readers := []*wire.Reader{wire.NewReader(b)}
			models := []*readerModel{{bytes: b, end: len(b)}}
			for range 60 {
				i := rnd.IntN(len(readers))
				if sub, model := read(t, rnd, readers[i], models[i]); model != nil {
					readers, models = append(readers, sub), append(models, model)
				}
				for j, r := range readers {
					m := models[j]
					stands(t, r, m.at, m.end-m.at, m.fault)
				}
			}
		}
	}
}
