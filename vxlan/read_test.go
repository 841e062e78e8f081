package vxlan_test

import (
	"bytes"
	"math/rand/v2"
	"slices"
	"strings"
	"testing"

	"leafmesh/api"
	"leafmesh/vxlan"
)

// checkRead fails the test unless Read of b returns what the model says, without changing b. It returns the fault.
func checkRead(t *testing.T, b []byte) api.Fault {
	t.Helper()
	before := bytes.Clone(b)
	want, wantFault := modelRead(before)
	p, fault := vxlan.Read(b)
	if p != want || fault != wantFault {
		t.Errorf("Read(% x) =\n%+v %v, want\n%+v %v", before, p, fault, want, wantFault)
	}
	if !bytes.Equal(b, before) {
		t.Errorf("Read changed % x to % x", before, b)
	}
	return wantFault
}

// checkFault fails the test unless Read of b says what the model says, which must be a fault at a position (OK at 0: none).
func checkFault(t *testing.T, b string, want api.Errno, at int) {
	t.Helper()
	if f := checkRead(t, []byte(b)); f != (api.Fault{Err: want, At: at}) {
		t.Errorf("the model of % x: %v, want %d at %d", b, f, want, at)
	}
}

// changed returns a text with other bytes at a place.
func changed(s string, at int, other string) string { return s[:at] + other + s[at+len(other):] }

// changedByte returns a text with another byte at a place.
func changedByte(s string, at int, x byte) string { return changed(s, at, string([]byte{x})) }

// P8.2: packets are read, whatever lies behind them in memory.
func TestRead(t *testing.T) {
	for _, s := range samples {
		b := []byte(s.bytes + "\x01\x02\x03")
		for range 2 {
			p, fault := vxlan.Read(b[:len(s.bytes)])
			if p != s.p || fault != (api.Fault{}) {
				t.Errorf("Read(% x) = %+v %v, want %+v", s.bytes, p, fault, s.p)
			}
		}
		checkRead(t, b[:len(s.bytes):len(s.bytes)])
	}
}

// P8.2: fewer than 36 bytes give ErrShort, whatever they are.
func TestReadShort(t *testing.T) {
	if p, fault := vxlan.Read(nil); p != (api.Packet{}) || fault != (api.Fault{Err: api.ErrShort}) {
		t.Errorf("Read(nil) = %+v %v", p, fault)
	}
	for n := range 36 {
		for _, x := range []string{"\x00", "\x08", "\x11", "\xff"} {
			checkFault(t, strings.Repeat(x, n), api.ErrShort, n)
		}
		for _, s := range samples {
			checkFault(t, s.bytes[:n], api.ErrShort, n)
			for at := range n {
				checkFault(t, changedByte(s.bytes, at, s.bytes[at]+1)[:n], api.ErrShort, n)
			}
		}
	}
	// As soon as the headers are there, the protocol counts.
	for n := 36; n < 100; n++ {
		checkFault(t, strings.Repeat("\x00", n), api.ErrType, 9)
	}
}

// P8.2: a protocol other than 17 gives ErrType at 9, whatever comes behind it.
func TestReadProto(t *testing.T) {
	for _, s := range samples {
		for x := range 256 {
			b := changedByte(s.bytes, 9, byte(x))
			for _, wrong := range []string{b, summed(b), b[:36], b[:40], b + "\x00", changed(b, 22, "\x00\x00"), changed(b, 36+12, "\x00\x00"), changedByte(b, 36+6, 1)} {
				if x != 17 {
					checkFault(t, wrong, api.ErrType, 9)
				} else {
					checkRead(t, []byte(wrong))
				}
			}
		}
	}
	for n := 36; n < 60; n++ {
		checkFault(t, changedByte(strings.Repeat("\x00", n), 9, 17), api.ErrType, 22)
	}
}

// P8.2: a port other than 4789 gives ErrType at 22, whatever the inner frame is.
func TestReadPort(t *testing.T) {
	b := samples[0].bytes
	for port := range 1 << 16 {
		if port == 4789 {
			continue
		}
		text := string([]byte{byte(port >> 8), byte(port)})
		checkFault(t, changed(b, 22, text), api.ErrType, 22)
		checkFault(t, changed(b, 22, text)[:36], api.ErrType, 22)
	}
	for _, s := range samples {
		for _, port := range []string{"\x00\x00", "\xb5\x12", "\x12\xb4", "\x12\xb6", "\x13\xb5", "\x11\xb5", "\x12\x00", "\x00\xb5", "\x12\x12"} {
			b := changed(s.bytes, 22, port)
			for _, wrong := range []string{b, b[:36], b[:40], b[:len(b)-1], b + "\x00", changed(b, 36+12, "\x00\x00"), changedByte(b, 36+6, 1), changedByte(b, 0, 0)} {
				checkFault(t, wrong, api.ErrType, 22)
			}
		}
	}
}

// P8.2: the fault of the inner frame has its position in the packet, and comes before what else is wrong with the headers.
func TestReadInner(t *testing.T) {
	for _, s := range samples {
		for _, head := range []string{s.bytes[:36], changedByte(s.bytes[:36], 0, 0), changedByte(s.bytes[:36], 25, 0), changedByte(s.bytes[:36], 28, 0)} {
			inner := s.bytes[36:]
			for n := range inner {
				checkFault(t, head+inner[:n], api.ErrShort, 36+n)
			}
			for _, more := range []string{"\x00", "\xff", inner, s.bytes} {
				checkFault(t, head+inner+more, api.ErrLong, len(s.bytes))
			}
			for _, code := range []string{"\x00\x00", "\x08\x01", "\x88\xb4", "\xb5\x88"} {
				checkFault(t, head+changed(inner, 12, code), api.ErrType, 48)
				checkFault(t, head+changed(inner, 12, code)[:14], api.ErrType, 48)
			}
			// A source that is a group address.
			checkFault(t, head+changedByte(inner, 6, 1), api.ErrForm, 36)
			if s.p.Inner.Kind == 2 {
				for at := 14; at < 34; at++ {
					if at != 23 {
						checkFault(t, head+changedByte(inner, at, inner[at]+1), api.ErrForm, 36)
					}
				}
			}
		}
	}
}

// P8.2: each byte of the headers that is not a field's must be as Bytes writes it.
func TestReadForm(t *testing.T) {
	for _, s := range samples {
		for at := range 36 {
			if at == 9 || at == 22 || at == 23 {
				continue
			}
			field := at == 20 || at == 21 || at > 28 && at < 35
			for x := range 256 {
				b := changedByte(s.bytes, at, byte(x))
				if field || b == s.bytes {
					checkFault(t, b, api.OK, 0)
				} else {
					checkFault(t, b, api.ErrForm, 0)
				}
			}
		}
	}
}

// summed returns the bytes of a packet with a right checksum of its IPv4 header, if the rest is right.
func summed(s string) string {
	b := []byte(s)
	b[10], b[11] = 0, 0
	sum := modelSum(b[:20])
	b[10], b[11] = byte(sum>>8), byte(sum)
	return string(b)
}

// checkLength fails the test unless Read rejects a packet with another length in its IPv4 header, or in its UDP header.
func checkLength(t *testing.T, s string, n int) {
	t.Helper()
	length := string([]byte{byte(n >> 8), byte(n)})
	if n != len(s) {
		checkFault(t, summed(changed(s, 2, length)), api.ErrForm, 0)
	}
	if n != len(s)-20 {
		checkFault(t, changed(s, 24, length), api.ErrForm, 0)
	}
}

// P8.2: a wrong IPv4 header gives ErrForm, also if its checksum is right; the TTL and the addresses may be any.
func TestReadHeader(t *testing.T) {
	for _, s := range samples {
		for at := range 20 {
			if at == 9 {
				continue
			}
			for x := range 256 {
				b := summed(changedByte(s.bytes, at, byte(x)))
				if at < 8 && b != s.bytes {
					checkFault(t, b, api.ErrForm, 0)
				} else {
					checkFault(t, b, api.OK, 0)
				}
			}
		}
		// The lengths of other packets, among them those with one byte of the right one.
		for n := range 1 << 8 {
			checkLength(t, s.bytes, n)
			checkLength(t, s.bytes, n<<8)
			checkLength(t, s.bytes, n<<8+len(s.bytes))
			checkLength(t, s.bytes, n<<8+len(s.bytes)-20)
		}
	}
	// Two checksums make all ten numbers add up to 0xffff here, but Bytes writes 0.
	zero := samples[len(samples)-1].bytes
	checkFault(t, zero, api.OK, 0)
	checkFault(t, changed(zero, 10, "\xff\xff"), api.ErrForm, 0)
}

// spoil changes a byte of b, removes some or adds some.
func spoil(r *rand.Rand, b []byte) []byte {
	if len(b) == 0 {
		return b
	}
	at := r.IntN(len(b))
	if r.IntN(2) == 0 {
		at = r.IntN(min(len(b), 36))
	}
	switch r.IntN(8) {
	case 0:
		return slices.Delete(b, at, min(len(b), at+1+r.IntN(9)))
	case 1:
		return slices.Insert(b, at, make([]byte, 1+r.IntN(9))...)
	case 2, 3:
		b[at] ^= 1 << r.IntN(8)
	case 4:
		b[at] = byte(r.Uint32())
	case 5:
		b[at]++
	case 6:
		b[at]--
	case 7:
		b[at] = pick[byte](r, 0, 6, 8, 17, 0x12, 0x45, 0x88, 0xb5, 0xff)
	}
	return b
}

// P8.2: Read says what the model says of packets that were spoiled, some of them with their checksums made right again, and of any bytes.
func TestReadModel(t *testing.T) {
	r := rand.New(rand.NewPCG(8, 3))
	counts := map[api.Errno]int{}
	for range 100000 {
		b, _ := vxlan.Bytes(validPacket(r))
		for range r.IntN(3) {
			b = spoil(r, b)
		}
		if len(b) >= 20 && r.IntN(3) == 0 {
			b = []byte(summed(string(b)))
		}
		counts[checkRead(t, b).Err]++
		few := make([]byte, r.IntN(100))
		for i := range few {
			few[i] = pick(r, 0, 6, 8, 17, 0x45, 0xff, byte(r.Uint32()))
		}
		checkRead(t, few)
	}
	for _, e := range []api.Errno{api.OK, api.ErrForm, api.ErrShort, api.ErrLong, api.ErrType} {
		if counts[e] < 1000 {
			t.Errorf("only %d packets with the error %d", counts[e], e)
		}
	}
}
