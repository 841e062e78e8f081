package packet_test

import (
	"bytes"
	"math/rand/v2"
	"slices"
	"strings"
	"testing"

	"leafmesh/api"
	"leafmesh/packet"
)

// checkRead fails the test unless Read of b returns what the model says, without changing b. It returns the fault.
func checkRead(t *testing.T, b []byte) api.Fault {
	t.Helper()
	before := bytes.Clone(b)
	want, wantFault := modelRead(before)
	f, fault := packet.Read(b)
	if f != want || fault != wantFault {
		t.Errorf("Read(% x) =\n%+v %v, want\n%+v %v", before, f, fault, want, wantFault)
	}
	if !bytes.Equal(b, before) {
		t.Errorf("Read changed % x to % x", before, b)
	}
	return wantFault
}

// checkFault fails the test unless Read of b says what the model says, which must be a fault at a position (OK at 0: none).
func checkFault(t *testing.T, b string, want api.Errno, at int) {
	t.Helper()
	if f := checkRead(t, []byte(b)); f != (api.Fault{Err: want, At: at}) {
		t.Errorf("the model of % x: %v, want %d at %d", b, f, want, at)
	}
}

// changed returns a text with another byte at a place.
func changed(s string, at int, x byte) string { return s[:at] + string([]byte{x}) + s[at+1:] }

// P7.3: frames are read, whatever lies behind them in memory.
func TestRead(t *testing.T) {
	for _, s := range samples {
		b := []byte(s.bytes + "\x01\x02\x03")
		for range 2 {
			f, fault := packet.Read(b[:len(s.bytes)])
			if f != s.f || fault != (api.Fault{}) {
				t.Errorf("Read(% x) = %+v %v, want %+v", s.bytes, f, fault, s.f)
			}
		}
		checkRead(t, b[:len(s.bytes):len(s.bytes)])
	}
}

// P7.3: fewer than 14 bytes give ErrShort, whatever they are.
func TestReadFew(t *testing.T) {
	if f, fault := packet.Read(nil); f != (api.Frame{}) || fault != (api.Fault{Err: api.ErrShort}) {
		t.Errorf("Read(nil) = %+v %v", f, fault)
	}
	for n := range 14 {
		for _, x := range []string{"\x00", "\x01", "\x08", "\xff"} {
			checkFault(t, strings.Repeat(x, n), api.ErrShort, n)
		}
	}
	// As soon as the type is there, it counts.
	for n := 14; n < 70; n++ {
		for _, x := range []string{"\x00", "\x01", "\x08", "\xff"} {
			checkFault(t, strings.Repeat(x, n), api.ErrType, 12)
		}
	}
}

// P7.3: a frame that ends too early gives ErrShort at its end, also if its bytes are wrong.
func TestReadShort(t *testing.T) {
	for _, s := range samples {
		for n := range len(s.bytes) {
			checkFault(t, s.bytes[:n], api.ErrShort, n)
			for at := range n {
				// A change of the type, or of the protocol, says that the frame is another one.
				if at != 12 && at != 13 && at != 23 {
					checkFault(t, changed(s.bytes[:n], at, s.bytes[at]+1), api.ErrShort, n)
				}
			}
		}
	}
	// Without its whole header, a frame of FrameIP is too short, whatever its protocol is.
	for n := 14; n < 34; n++ {
		for _, proto := range []byte{0, 1, 5, 6, 7, 16, 17, 18, 255} {
			b := []byte("\x00\x00\x00\x00\x00\x00\x00\x00\x00\x00\x00\x00\x08\x00" + strings.Repeat("\x00", n-14))
			if n > 23 {
				b[23] = proto
			}
			checkFault(t, string(b), api.ErrShort, n)
		}
	}
}

// P7.3: the type is one of three, whatever else is wrong.
func TestReadType(t *testing.T) {
	known := map[int]int{0x88b5: 22, 0x0806: 50, 0x0800: 42}
	for code := range 1 << 16 {
		for _, n := range []int{14, 22, 42, 50, 51} {
			b := make([]byte, n)
			b[12], b[13] = byte(code>>8), byte(code)
			fault := checkRead(t, b)
			size, found := known[code]
			switch {
			case !found && fault != (api.Fault{Err: api.ErrType, At: 12}):
				t.Errorf("type %04x, %d bytes: %v", code, n, fault)
			case found && n < size && fault != (api.Fault{Err: api.ErrShort, At: n}):
				t.Errorf("type %04x, %d bytes: %v", code, n, fault)
			case found && n > size && fault != (api.Fault{Err: api.ErrLong, At: size}):
				t.Errorf("type %04x, %d bytes: %v", code, n, fault)
			}
		}
	}
	for _, s := range samples {
		for _, code := range []string{"\x00\x00", "\x08\x01", "\x08\x05", "\x88\xb4", "\xb5\x88", "\x06\x08", "\x00\x08", "\x88\x06", "\x08\xb5", "\x89\xb5"} {
			checkFault(t, s.bytes[:12]+code+s.bytes[14:], api.ErrType, 12)
			checkFault(t, s.bytes[:12]+code, api.ErrType, 12)
			checkFault(t, s.bytes[:12]+code+s.bytes[14:]+s.bytes, api.ErrType, 12)
		}
	}
}

// P7.3: bytes behind a frame give ErrLong at its end, also if its bytes are wrong.
func TestReadLong(t *testing.T) {
	for _, s := range samples {
		for _, more := range []string{"\x00", "\xff", strings.Repeat("\x00", 8), s.bytes, strings.Repeat("\x07", 5000)} {
			checkFault(t, s.bytes+more, api.ErrLong, len(s.bytes))
			for at := range s.bytes {
				if at != 12 && at != 13 && at != 23 {
					checkFault(t, changed(s.bytes, at, s.bytes[at]^0x41)+more, api.ErrLong, len(s.bytes))
				}
			}
		}
	}
}

// P7.3: the protocol alone decides whether a frame of FrameIP has ports.
func TestReadProto(t *testing.T) {
	for proto := range 256 {
		size := 42
		if proto == 6 || proto == 17 {
			size = 50
		}
		for _, s := range samples {
			if s.f.Kind != 2 {
				continue
			}
			start := changed(s.bytes, 23, byte(proto))[:34]
			for n := 34; n < 60; n++ {
				b := start + strings.Repeat("\x00", n-34)
				switch {
				case n < size:
					checkFault(t, b, api.ErrShort, n)
				case n > size:
					checkFault(t, b, api.ErrLong, size)
				case s.f.IP.Proto != proto:
					checkFault(t, b, api.ErrForm, 0)
				}
			}
		}
	}
}

// P7.3: each byte that is not a field's, or is of a field that is limited, must be as Bytes writes it.
func TestReadForm(t *testing.T) {
	for _, s := range samples {
		for at := range s.bytes {
			if at == 12 || at == 13 || at == 23 && s.f.Kind == 2 {
				continue
			}
			fixed := at >= 14 && at <= 20 && s.f.Kind == 1 || at >= 14 && at < 34 && s.f.Kind == 2 || at >= 38 && at < 42 && len(s.bytes) == 50 && s.f.Kind == 2
			for x := range 256 {
				b := changed(s.bytes, at, byte(x))
				good := !fixed || b == s.bytes
				if at == 6 {
					good = x%2 == 0
				}
				if at == 21 && s.f.Kind == 1 {
					good = x == 1 || x == 2
				}
				if good {
					checkFault(t, b, api.OK, 0)
				} else {
					checkFault(t, b, api.ErrForm, 0)
				}
			}
		}
	}
}

// summed returns the bytes of a frame of FrameIP with a right checksum of its header, if the rest is right.
func summed(s string) string {
	b := []byte(s)
	b[24], b[25] = 0, 0
	sum := packet.Sum(b[14:34])
	b[24], b[25] = byte(sum>>8), byte(sum)
	return string(b)
}

// P7.3: a wrong header gives ErrForm, also if its checksum is right.
func TestReadHeader(t *testing.T) {
	for _, s := range samples {
		if s.f.Kind != 2 {
			continue
		}
		for at := 14; at < 34; at++ {
			for x := range 256 {
				b := summed(changed(s.bytes, at, byte(x)))
				switch {
				case at < 22 && b != s.bytes:
					checkFault(t, b, api.ErrForm, 0)
				case at != 23:
					checkFault(t, b, api.OK, 0)
				}
			}
		}
	}
	// Two checksums make all ten numbers add up to 0xffff here, but Bytes writes 0.
	zero := samples[len(samples)-1].bytes
	checkFault(t, zero, api.OK, 0)
	both := changed(changed(zero, 24, 0xff), 25, 0xff)
	if packet.Sum([]byte(both[14:34])) != 0 {
		t.Errorf("the sum of % x", both[14:34])
	}
	checkFault(t, both, api.ErrForm, 0)
}

// spoil changes a byte of b, removes some or adds some.
func spoil(r *rand.Rand, b []byte) []byte {
	if len(b) == 0 {
		return b
	}
	at := r.IntN(len(b))
	switch r.IntN(8) {
	case 0:
		return slices.Delete(b, at, min(len(b), at+1+r.IntN(9)))
	case 1:
		return slices.Insert(b, at, make([]byte, 1+r.IntN(9))...)
	case 2:
		b[at] ^= 1 << r.IntN(8)
	case 3:
		b[at] = byte(r.Uint32())
	case 4:
		b[at]++
	case 5:
		b[at]--
	case 6:
		at = min(len(b)-1, 12+r.IntN(12))
		b[at] = pick[byte](r, 0, 1, 6, 8, 17, 0x45, 0x88, 0xb5)
	case 7:
		if len(b) > 14 && r.IntN(2) == 0 {
			b[12], b[13] = 8, pick[byte](r, 0, 6)
		}
	}
	return b
}

// P7.3: Read says what the model says of frames that were spoiled, some of them with their checksums made right again, and of any bytes.
func TestReadModel(t *testing.T) {
	r := rand.New(rand.NewPCG(7, 3))
	counts := map[api.Errno]int{}
	for range 100000 {
		b, _ := packet.Bytes(validFrame(r))
		for range r.IntN(3) {
			b = spoil(r, b)
		}
		if len(b) >= 42 && r.IntN(3) == 0 {
			b = []byte(summed(string(b)))
		}
		counts[checkRead(t, b).Err]++
		few := make([]byte, r.IntN(60))
		for i := range few {
			few[i] = pick(r, 0, 1, 6, 8, 0x45, 0xff, byte(r.Uint32()))
		}
		checkRead(t, few)
	}
	for _, e := range []api.Errno{api.OK, api.ErrForm, api.ErrShort, api.ErrLong, api.ErrType} {
		if counts[e] < 1000 {
			t.Errorf("only %d frames with the error %d", counts[e], e)
		}
	}
}
