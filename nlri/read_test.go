package nlri_test

import (
	"bytes"
	"math/rand/v2"
	"slices"
	"strings"
	"testing"

	"leafmesh/api"
	"leafmesh/nlri"
)

// checkRead fails the test unless Read of b returns what it must, and the same again, without changing b.
func checkRead(t *testing.T, b []byte, want []api.NLRI, fault api.Fault) {
	t.Helper()
	before := bytes.Clone(b)
	for range 2 {
		got, f := nlri.Read(b)
		if f != fault || !slices.Equal(got, want) {
			t.Errorf("Read(% x) = %+v %v, want %+v %v", b, got, f, want, fault)
		}
		// The result is new memory, so that this changes nothing.
		clear(got[:cap(got)])
	}
	if !bytes.Equal(b, before) {
		t.Errorf("Read changed % x to % x", before, b)
	}
}

// checkModel does the same with what the model says.
func checkModel(t *testing.T, b []byte) api.Errno {
	t.Helper()
	want, fault := modelRead(b)
	checkRead(t, b, want, fault)
	return fault.Err
}

// fault returns a fault.
func fault(e api.Errno, at int) api.Fault { return api.Fault{Err: e, At: at} }

// P4.2: routes alone and one after the other; without bytes there are none.
func TestReadRoutes(t *testing.T) {
	checkRead(t, nil, nil, api.Fault{})
	checkRead(t, []byte{}, nil, api.Fault{})
	var all []byte
	var routes []api.NLRI
	for _, s := range samples {
		checkRead(t, []byte(s.bytes), []api.NLRI{s.route}, api.Fault{})
		all, routes = append(all, s.bytes...), append(routes, s.route)
		checkRead(t, all, routes, api.Fault{})
	}
	checkRead(t, slices.Concat(all, all), slices.Concat(routes, routes), api.Fault{})
}

// P4.2: the examples of the chapter, and faults behind other routes.
func TestReadFaults(t *testing.T) {
	first := samples[0].bytes
	for _, c := range []struct {
		b string
		e api.Errno
	}{
		{"\x03\x11\x00", api.ErrShort},
		{"\x03\x00", api.ErrForm},
		{"\x06\x00", api.ErrType},
		{"\x00\x00", api.ErrType},
		{"\xff\x00", api.ErrType},
		{"\x00", api.ErrShort},
		{"\x03", api.ErrShort},
		{"\x06", api.ErrShort},
		// ErrShort before ErrType and ErrForm.
		{"\x06\x01", api.ErrShort},
		{"\x03\x01", api.ErrShort},
		{"\x06\x05\x00\x00\x00\x00", api.ErrShort},
		{"\x03\xff" + strings.Repeat("\x00", 254), api.ErrShort},
		{"\x03\xff" + strings.Repeat("\x00", 255), api.ErrForm},
		{"\x06\xff" + strings.Repeat("\x00", 255), api.ErrType},
		// Only the first fault counts.
		{"\x03\x00\x06\x00\x03", api.ErrForm},
		{"\x06\x00\x03\x00\x03", api.ErrType},
	} {
		checkRead(t, []byte(c.b), nil, fault(c.e, 0))
		checkRead(t, []byte(first+c.b), nil, fault(c.e, len(first)))
		checkRead(t, []byte(first+first+c.b), nil, fault(c.e, 2*len(first)))
	}
}

// P4.2: at most 4,096 routes are read; one more gives ErrFull, whatever it is.
func TestReadFull(t *testing.T) {
	sample := samples[5]
	size := len(sample.bytes)
	whole := []byte(strings.Repeat(sample.bytes, 4096))
	checkRead(t, whole, slices.Repeat([]api.NLRI{sample.route}, 4096), api.Fault{})
	for _, more := range []string{sample.bytes, sample.bytes + sample.bytes, "\x03", "\x03\x11", "\x06\x00", "\x03\x00", "\x00", "\xff"} {
		checkRead(t, append(whole[:4096*size:4096*size], more...), nil, fault(api.ErrFull, 4096*size))
	}
	for _, more := range []struct {
		b string
		e api.Errno
	}{{"\x03", api.ErrShort}, {"\x03\x00", api.ErrForm}, {"\x06\x00", api.ErrType}} {
		checkRead(t, append(whole[:4095*size:4095*size], more.b...), nil, fault(more.e, 4095*size))
	}
	// A fault in the 4,096th route comes before the routes that are too many.
	whole = append(whole, whole...)
	whole[4095*size] = 6
	checkRead(t, whole, nil, fault(api.ErrType, 4095*size))
}

// P4.2: every size of a value, with every kind. Only the second label may be missing; three zero bytes more are not one.
func TestReadSizes(t *testing.T) {
	for _, s := range samples {
		for size := range 256 {
			b := append([]byte(s.bytes), make([]byte, 256)...)[:2+size]
			b[1] = byte(size)
			more := 2 + size - len(s.bytes)
			right := more == 0 || more == -3 && s.route.Label2 != 0
			if e := checkModel(t, b); (e == api.OK) != right || !right && e != api.ErrForm {
				t.Errorf("Read(% x): %d", b, e)
			}
			for kind := range 256 {
				b[0] = byte(kind)
				checkModel(t, b)
			}
		}
	}
}

// P4.2: every byte of a route with every value.
func TestReadBytes(t *testing.T) {
	for _, s := range samples {
		for at := range len(s.bytes) {
			for x := range 256 {
				b := []byte(s.bytes)
				b[at] = byte(x)
				checkModel(t, b)
				checkModel(t, append([]byte(samples[5].bytes), b...))
			}
			checkModel(t, []byte(s.bytes[:at]))
			if at > 0 {
				checkRead(t, []byte(s.bytes[:at]), nil, fault(api.ErrShort, 0))
			}
		}
	}
}

// P4.2: the bytes between the parts are 48, 32 or 0; a second label is not zero; a prefix is clean.
func TestReadForm(t *testing.T) {
	for _, c := range []struct {
		sample, at int
		to         string
	}{
		{1, 2 + 22, "\x2f"}, {1, 2 + 22, "\x00"}, {3, 2 + 22, "\x06"}, // the size of the hardware address
		{1, 2 + 29, "\x20"}, {2, 2 + 29, "\x20"}, {1, 2 + 29, "\x01"}, // an address that is not there
		{3, 2 + 29, "\x00"}, {4, 2 + 29, "\x00"}, {3, 2 + 29, "\x04"}, {3, 2 + 29, "\x21"}, // one that is
		{5, 2 + 12, "\x00"}, {5, 2 + 12, "\x04"}, {6, 2 + 18, "\x00"}, {6, 2 + 18, "\x1f"},
		{2, 2 + 33, "\x00\x00\x00"}, {4, 2 + 37, "\x00\x00\x00"}, // no second label
		{7, 2 + 22, "\x1d"}, {7, 2 + 22, "\x00"}, {7, 2 + 22, "\x21"}, {7, 2 + 22, "\xff"}, {7, 2 + 26, "\x75"}, // the prefix
	} {
		s := samples[c.sample]
		b := []byte(s.bytes)
		copy(b[c.at:], c.to)
		checkRead(t, b, nil, fault(api.ErrForm, 0))
		checkRead(t, append([]byte(s.bytes), b...), nil, fault(api.ErrForm, len(s.bytes)))
	}
}

// spoil changes some of the bytes, or how many there are.
func spoil(r *rand.Rand, b []byte) []byte {
	for range r.IntN(4) {
		if len(b) == 0 {
			return []byte{byte(r.IntN(8)), byte(r.IntN(3))}
		}
		at := r.IntN(len(b))
		switch r.IntN(5) {
		case 0:
			b[at] = byte(r.Uint32())
		case 1:
			b[at] = pick[byte](r, 0, 1, 2, 3, 4, 5, 6, 17, 23, 25, 32, 33, 34, 36, 37, 40, 48, 255)
		case 2:
			b = slices.Insert(b, at, byte(r.IntN(50)))
		case 3:
			b = slices.Delete(b, at, at+1)
		case 4:
			b = b[:at]
		}
	}
	return b
}

// P4.2, P4.5: random lists of routes are read back; spoiled ones are read as the model says, and what is accepted is exactly what Bytes writes.
func TestReadRandom(t *testing.T) {
	r := rand.New(rand.NewPCG(4, 5))
	counts := map[api.Errno]int{}
	for range 50000 {
		var routes []api.NLRI
		var b []byte
		for range r.IntN(6) {
			n := validRoute(r)
			one, err := nlri.Bytes(n)
			if err != api.OK {
				t.Fatal(n, err)
			}
			routes, b = append(routes, n), append(b, one...)
		}
		checkRead(t, b, routes, api.Fault{})
		b = spoil(r, b)
		counts[checkModel(t, b)]++
		checkWritten(t, b)
		if t.Failed() {
			return
		}
	}
	for _, e := range []api.Errno{api.OK, api.ErrShort, api.ErrType, api.ErrForm} {
		if counts[e] < 200 {
			t.Errorf("only %d spoiled lists with the error %d", counts[e], e)
		}
	}
}

// checkWritten fails the test unless Bytes writes b again if Read accepts it.
func checkWritten(t *testing.T, b []byte) {
	t.Helper()
	routes, f := nlri.Read(b)
	if f != (api.Fault{}) {
		return
	}
	var again []byte
	for _, n := range routes {
		one, err := nlri.Bytes(n)
		if err != api.OK {
			t.Errorf("Bytes(%+v): %d, but Read has accepted it", n, err)
		}
		again = append(again, one...)
	}
	if !bytes.Equal(again, b) {
		t.Errorf("Read(% x) = %+v, whose bytes are % x", b, routes, again)
	}
}

// P4.5 for bytes of any kind, short ones above all.
func TestReadAnything(t *testing.T) {
	r := rand.New(rand.NewPCG(4, 6))
	for range 50000 {
		b := make([]byte, r.IntN(60))
		for i := range b {
			b[i] = pick(r, 0, 0, 0, 3, 17, 32, byte(r.Uint32()))
		}
		if len(b) > 1 {
			b[0] = byte(1 + r.IntN(5))
			b[1] = pick[byte](r, 17, 23, 25, 33, 34, 36, 37, 40, byte(len(b)-2))
		}
		checkModel(t, b)
		checkWritten(t, b)
	}
}
