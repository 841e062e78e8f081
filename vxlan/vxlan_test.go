package vxlan_test

import (
	"bytes"
	"math"
	"math/rand/v2"
	"testing"

	"leafmesh/api"
	"leafmesh/packet"
	"leafmesh/vxlan"
)

// checkPacket fails the test unless Check and Bytes say of p what the model says, which must be the wanted error.
func checkPacket(t *testing.T, p api.Packet, want api.Errno) {
	t.Helper()
	if modelled := modelCheck(p); modelled != want {
		t.Errorf("the model of %+v: %d, want %d", p, modelled, want)
	}
	if got := vxlan.Check(p); got != want {
		t.Errorf("Check(%+v) = %d, want %d", p, got, want)
	}
	var wanted []byte
	if want == api.OK {
		wanted = modelBytes(p)
	}
	for range 2 {
		b, err := vxlan.Bytes(p)
		if err != want || !bytes.Equal(b, wanted) {
			t.Errorf("Bytes(%+v) = % x %d, want % x %d", p, b, err, wanted, want)
		}
		// The bytes are new memory: the second call returns the same.
		clear(b[:cap(b)])
	}
}

// P8.1: packets are encoded as the chapter says.
func TestBytes(t *testing.T) {
	for _, s := range samples {
		checkPacket(t, s.p, api.OK)
		if b, err := vxlan.Bytes(s.p); err != api.OK || string(b) != s.bytes {
			t.Errorf("Bytes(%+v) = % x %d, want % x", s.p, b, err, s.bytes)
		}
	}
}

// P8.1: each inner frame gives the lengths of its own size, and stands behind 36 bytes.
func TestBytesInner(t *testing.T) {
	r := rand.New(rand.NewPCG(8, 1))
	sizes := map[int]int{}
	for range 20000 {
		p := samples[r.IntN(len(samples))].p
		p.Inner = validFrame(r)
		checkPacket(t, p, api.OK)
		b, _ := vxlan.Bytes(p)
		inner, _ := packet.Bytes(p.Inner)
		if len(b) < 36 || !bytes.Equal(b[36:], inner) || b[2] != 0 || int(b[3]) != 36+len(inner) || b[24] != 0 || int(b[25]) != 16+len(inner) {
			t.Errorf("Bytes(%+v) = % x with % x", p, b, inner)
		}
		sizes[len(b)]++
	}
	if len(sizes) != 3 || sizes[58] == 0 || sizes[78] == 0 || sizes[86] == 0 {
		t.Errorf("the sizes of packets: %v", sizes)
	}
}

// P8.1: each bit of each field stands at its place.
func TestBytesBits(t *testing.T) {
	for bit := range 32 {
		n := uint32(1) << bit
		checkPacket(t, api.Packet{Src: api.IP(n)}, api.OK)
		checkPacket(t, api.Packet{Dst: api.IP(n)}, api.OK)
		if bit < 8 {
			checkPacket(t, api.Packet{TTL: int(n)}, api.OK)
		}
		if bit < 16 {
			checkPacket(t, api.Packet{Entropy: int(n)}, api.OK)
		}
		if bit < 24 {
			checkPacket(t, api.Packet{VNI: n}, api.OK)
			checkPacket(t, api.Packet{Mark: n}, api.OK)
		} else {
			checkPacket(t, api.Packet{VNI: n}, api.ErrRange)
			checkPacket(t, api.Packet{Mark: n}, api.ErrRange)
		}
	}
}

// P8.1: TTL, Entropy, VNI and Mark have limits, whatever the inner frame is.
func TestCheckRange(t *testing.T) {
	ttls := map[int]api.Errno{0: 0, 1: 0, 16: 0, 127: 0, 128: 0, 254: 0, 255: 0, -1: 2, -240: 2, 256: 2, 256 + 16: 2, 1 << 32: 2, 1<<32 + 16: 2, math.MinInt: 2, math.MinInt + 16: 2, math.MaxInt: 2}
	entropies := map[int]api.Errno{0: 0, 1: 0, 255: 0, 256: 0, 32768: 0, 49152: 0, 65534: 0, 65535: 0, -1: 2, -16384: 2, 65536: 2, 65536 + 49152: 2, 1 << 32: 2, math.MinInt: 2, math.MaxInt: 2}
	labels := map[uint32]api.Errno{0: 0, 1: 0, 255: 0, 65535: 0, 65536: 0, api.MaxVNI - 1: 0, api.MaxVNI: 0, api.MaxVNI + 1: 2, api.MaxVNI + 2: 2, 1 << 25: 2, 1 << 31: 2, math.MaxUint32: 2}
	for _, s := range samples {
		for n, want := range ttls {
			p := s.p
			p.TTL = n
			checkPacket(t, p, want)
		}
		for n, want := range entropies {
			p := s.p
			p.Entropy = n
			checkPacket(t, p, want)
		}
		for n, want := range labels {
			p := s.p
			p.VNI = n
			checkPacket(t, p, want)
			p = s.p
			p.Mark = n
			checkPacket(t, p, want)
		}
	}
}

// P8.1: the error of the inner frame comes after that of the packet.
func TestCheckInner(t *testing.T) {
	for _, w := range wrongFrames {
		for _, s := range samples {
			p := s.p
			p.Inner = w.f
			checkPacket(t, p, w.err)
			for _, change := range []func(*api.Packet){
				func(p *api.Packet) { p.TTL = 256 },
				func(p *api.Packet) { p.TTL = -1 },
				func(p *api.Packet) { p.Entropy = 65536 },
				func(p *api.Packet) { p.Entropy = -1 },
				func(p *api.Packet) { p.VNI = api.MaxVNI + 1 },
				func(p *api.Packet) { p.Mark = api.MaxVNI + 1 },
			} {
				wrong := p
				change(&wrong)
				checkPacket(t, wrong, api.ErrRange)
			}
		}
	}
}

// P8.1: Check and Bytes say what the model says of any packets.
func TestModel(t *testing.T) {
	r := rand.New(rand.NewPCG(8, 2))
	counts := map[api.Errno]int{}
	for range 100000 {
		p := mixedPacket(r)
		want := modelCheck(p)
		checkPacket(t, p, want)
		counts[want]++
	}
	for _, e := range []api.Errno{api.OK, api.ErrRange, api.ErrForm, api.ErrType} {
		if counts[e] < 1000 {
			t.Errorf("only %d packets with the error %d", counts[e], e)
		}
	}
}
