package packet_test

import (
	"bytes"
	"math/rand/v2"
	"testing"

	"leafmesh/api"
	"leafmesh/packet"
)

// P7.4: Read returns the frame that Bytes encoded.
func TestInverse(t *testing.T) {
	r := rand.New(rand.NewPCG(7, 4))
	var sizes [3]map[int]bool
	for i := range sizes {
		sizes[i] = map[int]bool{}
	}
	for range 50000 {
		f := validFrame(r)
		b, err := packet.Bytes(f)
		back, fault := packet.Read(b)
		if err != api.OK || fault != (api.Fault{}) || back != f {
			t.Errorf("%+v is written as % x %d, and read as %+v %v", f, b, err, back, fault)
		}
		sizes[f.Kind][len(b)] = true
	}
	if !sizes[0][22] || !sizes[1][50] || !sizes[2][42] || !sizes[2][50] || len(sizes[0])+len(sizes[1])+len(sizes[2]) != 4 {
		t.Errorf("the sizes of the kinds: %v", sizes)
	}
}

// P7.4: what Read accepts is exactly what Bytes writes.
func TestAccepted(t *testing.T) {
	r := rand.New(rand.NewPCG(7, 5))
	accepted := 0
	for range 100000 {
		b, _ := packet.Bytes(validFrame(r))
		for range 1 + r.IntN(2) {
			b = spoil(r, b)
		}
		f, fault := packet.Read(b)
		if fault.Err != api.OK {
			continue
		}
		accepted++
		if again, err := packet.Bytes(f); err != api.OK || !bytes.Equal(again, b) {
			t.Errorf("% x is read as %+v, and written as % x %d", b, f, again, err)
		}
	}
	if accepted < 10000 {
		t.Errorf("only %d frames were accepted", accepted)
	}
}

// checkSingle fails the test unless each change of a single byte of the IPv4 header of a frame is rejected.
func checkSingle(t *testing.T, b []byte) {
	t.Helper()
	for at := 14; at < 34; at++ {
		for x := range 256 {
			c := bytes.Clone(b)
			c[at] = byte(x)
			f, fault := packet.Read(c)
			if bytes.Equal(b, c) {
				if fault != (api.Fault{}) {
					t.Errorf("Read(% x): %v", c, fault)
				}
				continue
			}
			if fault.Err == api.OK || f != (api.Frame{}) {
				t.Errorf("Read(% x) = %+v %v, with the byte %d of % x changed", c, f, fault, at, b)
			}
		}
	}
}

// P7.5: a change of a single byte of the IPv4 header is rejected, whatever the sum is.
func TestSingle(t *testing.T) {
	for _, s := range samples {
		if s.f.Kind == 2 {
			checkSingle(t, []byte(s.bytes))
		}
	}
	r := rand.New(rand.NewPCG(7, 6))
	for count := 0; count < 300; {
		f := validFrame(r)
		if f.Kind != 2 {
			continue
		}
		b, err := packet.Bytes(f)
		if err != api.OK {
			t.Errorf("Bytes(%+v): %d", f, err)
		}
		checkSingle(t, b)
		count++
	}
	// Headers with the checksums 0, 1, 0xfffe and so on, between which a change may wrap around.
	for _, sum := range []uint16{0, 1, 2, 0xff, 0x100, 0xff00, 0xfffe} {
		f := api.Frame{Kind: 2, IP: api.Head{TTL: 64, Proto: 17, Src: 0xffff0000}}
		b, _ := packet.Bytes(f)
		// The lower half of Dst makes up for what is missing in the sum.
		f.IP.Dst = api.IP((65535 + uint32(b[24])<<8 + uint32(b[25]) - uint32(sum)) % 65535)
		b, _ = packet.Bytes(f)
		if got := uint16(b[24])<<8 | uint16(b[25]); got != sum {
			t.Errorf("the checksum of %+v is %04x, want %04x", f, got, sum)
		}
		checkSingle(t, b)
	}
}
