package packet_test

import (
	"bytes"
	"math"
	"math/rand/v2"
	"testing"

	"leafmesh/api"
	"leafmesh/packet"
)

// checkFrame fails the test unless Check and Bytes say of f what the model says, which must be the wanted error.
func checkFrame(t *testing.T, f api.Frame, want api.Errno) {
	t.Helper()
	if modelled := modelCheck(f); modelled != want {
		t.Errorf("the model of %+v: %d, want %d", f, modelled, want)
	}
	if got := packet.Check(f); got != want {
		t.Errorf("Check(%+v) = %d, want %d", f, got, want)
	}
	var wanted []byte
	if want == api.OK {
		wanted = modelBytes(f)
	}
	for range 2 {
		b, err := packet.Bytes(f)
		if err != want || !bytes.Equal(b, wanted) {
			t.Errorf("Bytes(%+v) = % x %d, want % x %d", f, b, err, wanted, want)
		}
		// The bytes are new memory: the second call returns the same.
		clear(b[:cap(b)])
	}
}

// P7.2: frames are encoded as the table of the chapter says.
func TestBytes(t *testing.T) {
	for _, s := range samples {
		checkFrame(t, s.f, api.OK)
		if b, err := packet.Bytes(s.f); err != api.OK || string(b) != s.bytes {
			t.Errorf("Bytes(%+v) = % x %d, want % x", s.f, b, err, s.bytes)
		}
	}
}

// P7.1, P7.2: each bit of each field that any kind uses stands at its place.
func TestBytesBits(t *testing.T) {
	for bit := range 64 {
		n := uint64(1) << bit
		checkFrame(t, api.Frame{Data: n}, api.OK)
		if bit < 48 {
			checkFrame(t, api.Frame{Dst: api.MAC(n)}, api.OK)
			checkFrame(t, api.Frame{Kind: 1, ARP: api.ARP{Op: 1, SenderMAC: api.MAC(n)}}, api.OK)
			checkFrame(t, api.Frame{Kind: 1, ARP: api.ARP{Op: 2, TargetMAC: api.MAC(n)}}, api.OK)
		}
		if bit < 48 && bit != 40 {
			checkFrame(t, api.Frame{Src: api.MAC(n)}, api.OK)
		}
		if bit < 32 {
			checkFrame(t, api.Frame{Kind: 1, ARP: api.ARP{Op: 1, SenderIP: api.IP(n)}}, api.OK)
			checkFrame(t, api.Frame{Kind: 1, ARP: api.ARP{Op: 2, TargetIP: api.IP(n)}}, api.OK)
			checkFrame(t, api.Frame{Kind: 2, IP: api.Head{Src: api.IP(n)}}, api.OK)
			checkFrame(t, api.Frame{Kind: 2, IP: api.Head{Dst: api.IP(n)}}, api.OK)
		}
		for _, proto := range []int{6, 17} {
			if bit < 16 {
				checkFrame(t, api.Frame{Kind: 2, IP: api.Head{Proto: proto, SrcPort: int(n)}}, api.OK)
				checkFrame(t, api.Frame{Kind: 2, IP: api.Head{Proto: proto, DstPort: int(n)}}, api.OK)
			}
		}
	}
}

// P7.1: an address above the greatest one gives ErrRange, whatever else is wrong.
func TestCheckAddresses(t *testing.T) {
	for m, want := range map[api.MAC]api.Errno{
		0: api.OK, 1: api.OK, 1<<40 - 1: api.OK, 1 << 41: api.OK, 0xfeffffffffff: api.OK, api.GatewayMAC: api.OK, 0x02000000001f: api.OK,
		1 << 40: api.ErrForm, 1<<40 | 1: api.ErrForm, 0x01005e000001: api.ErrForm, 3 << 40: api.ErrForm, api.Broadcast: api.ErrForm,
		api.MaxMAC + 1: api.ErrRange, 1<<48 | 1<<40: api.ErrRange, 1 << 49: api.ErrRange, 1 << 63: api.ErrRange, math.MaxUint64: api.ErrRange,
	} {
		for _, s := range samples {
			f := s.f
			f.Src = m
			checkFrame(t, f, want)
			f = s.f
			f.Dst = m
			// A group address may be a destination.
			if want == api.ErrForm {
				checkFrame(t, f, api.OK)
			} else {
				checkFrame(t, f, want)
			}
		}
		if want == api.ErrRange {
			checkFrame(t, api.Frame{Src: 1 << 40, Dst: m}, want)
			checkFrame(t, api.Frame{Src: m, Kind: 3, ARP: api.ARP{Op: 9}}, want)
			checkFrame(t, api.Frame{Dst: m, Kind: -1, IP: api.Head{SrcPort: 1}}, want)
		}
	}
}

// P7.1: a source that is a group address gives ErrForm before the errors of the kind.
func TestCheckSource(t *testing.T) {
	for _, kind := range append(strangeKinds, 0, 1, 2) {
		checkFrame(t, api.Frame{Src: 1 << 40, Kind: kind}, api.ErrForm)
		checkFrame(t, api.Frame{Src: api.Broadcast, Kind: kind, ARP: api.ARP{Op: 3}, IP: api.Head{TTL: -1}}, api.ErrForm)
	}
}

// P7.1: what is none of the three kinds gives ErrType, whatever the fields of the kinds are.
func TestCheckKind(t *testing.T) {
	for _, kind := range strangeKinds {
		checkFrame(t, api.Frame{Kind: kind}, api.ErrType)
		checkFrame(t, api.Frame{Kind: kind, Src: 2, Dst: 4, ARP: api.ARP{Op: -1}, IP: api.Head{Proto: 999}}, api.ErrType)
		for _, f := range fields {
			frame := api.Frame{Kind: kind}
			f.set(&frame)
			checkFrame(t, frame, api.ErrType)
		}
	}
	checkFrame(t, api.Frame{Kind: 0}, api.OK)
	checkFrame(t, api.Frame{Kind: 1, ARP: api.ARP{Op: 1}}, api.OK)
	checkFrame(t, api.Frame{Kind: 2}, api.OK)
}

// P7.1: a field of another kind gives ErrForm, before the errors of the frame's own fields.
func TestCheckFields(t *testing.T) {
	for _, field := range fields {
		for _, s := range samples {
			f := s.f
			if f.Kind == field.kind {
				continue
			}
			field.set(&f)
			checkFrame(t, f, api.ErrForm)
			f.ARP.Op, f.IP.TTL = -1, 256
			checkFrame(t, f, api.ErrForm)
		}
	}
	for _, n := range []int{math.MinInt, -1, 3, 256, math.MaxInt} {
		checkFrame(t, api.Frame{ARP: api.ARP{Op: n}}, api.ErrForm)
		checkFrame(t, api.Frame{IP: api.Head{DstPort: n}}, api.ErrForm)
		checkFrame(t, api.Frame{Kind: 1, ARP: api.ARP{Op: n}, IP: api.Head{TTL: n}}, api.ErrForm)
		checkFrame(t, api.Frame{Kind: 2, ARP: api.ARP{Op: n}, IP: api.Head{TTL: n}}, api.ErrForm)
	}
	checkFrame(t, api.Frame{ARP: api.ARP{SenderMAC: math.MaxUint64}}, api.ErrForm)
	checkFrame(t, api.Frame{Kind: 2, ARP: api.ARP{TargetMAC: math.MaxUint64}}, api.ErrForm)
}

// P7.1: Op is 1 or 2, and the hardware addresses of a message are valid; they may be group addresses.
func TestCheckARP(t *testing.T) {
	ops := map[int]api.Errno{1: 0, 2: 0, 0: 2, 3: 2, 4: 2, -1: 2, -2: 2, 256: 2, 257: 2, 258: 2, 65537: 2, 1<<32 + 1: 2, math.MinInt + 1: 2, math.MinInt: 2, math.MaxInt: 2}
	macs := map[api.MAC]api.Errno{0: 0, 1: 0, 1 << 40: 0, api.Broadcast: 0, api.MaxMAC + 1: 2, 1 << 63: 2, math.MaxUint64: 2}
	for op, one := range ops {
		for m, other := range macs {
			for _, ip := range []api.IP{0, 1, math.MaxUint32} {
				checkFrame(t, api.Frame{Kind: 1, ARP: api.ARP{Op: op, SenderMAC: m, SenderIP: ip}}, max(one, other))
				checkFrame(t, api.Frame{Kind: 1, ARP: api.ARP{Op: op, TargetMAC: m, TargetIP: ip}}, max(one, other))
			}
		}
	}
}

// P7.1: TTL and Proto are from 0 to 255, ports from 0 to 65,535; ErrRange comes before ErrForm.
func TestCheckIP(t *testing.T) {
	small := map[int]api.Errno{0: 0, 1: 0, 6: 0, 17: 0, 127: 0, 128: 0, 254: 0, 255: 0, -1: 2, -250: 2, 256: 2, 256 + 6: 2, 65536 + 17: 2, 1 << 32: 2, 1<<32 + 6: 2, math.MinInt: 2, math.MaxInt: 2}
	ports := map[int]api.Errno{0: 0, 1: 0, 255: 0, 256: 0, 65534: 0, 65535: 0, -1: 2, -65535: 2, 65536: 2, 65537: 2, 1 << 32: 2, math.MinInt: 2, math.MaxInt: 2}
	for n, err := range small {
		checkFrame(t, api.Frame{Kind: 2, IP: api.Head{TTL: n}}, err)
		checkFrame(t, api.Frame{Kind: 2, IP: api.Head{TTL: n, Proto: 17, SrcPort: 5, DstPort: 6}}, err)
		checkFrame(t, api.Frame{Kind: 2, IP: api.Head{Proto: n}}, err)
		for p, other := range ports {
			want := max(err, other)
			if want == api.OK && n != 6 && n != 17 && p != 0 {
				want = api.ErrForm
			}
			checkFrame(t, api.Frame{Kind: 2, IP: api.Head{Proto: n, SrcPort: p}}, want)
			checkFrame(t, api.Frame{Kind: 2, IP: api.Head{Proto: n, DstPort: p}}, want)
		}
	}
	for _, proto := range []int{6, 17} {
		for p, err := range ports {
			checkFrame(t, api.Frame{Kind: 2, IP: api.Head{Proto: proto, SrcPort: p, DstPort: 65535}}, err)
			checkFrame(t, api.Frame{Kind: 2, IP: api.Head{Proto: proto, SrcPort: 65535, DstPort: p}}, err)
		}
	}
	// Ports that cancel each other out are ports nevertheless.
	checkFrame(t, api.Frame{Kind: 2, IP: api.Head{SrcPort: 1, DstPort: -1}}, api.ErrRange)
	checkFrame(t, api.Frame{Kind: 2, IP: api.Head{Proto: 1, TTL: 256, SrcPort: 1}}, api.ErrRange)
}

// P7.1: the protocols 6 and 17 have ports, and no others.
func TestPorted(t *testing.T) {
	for proto := -300; proto < 70000; proto++ {
		if got := packet.Ported(proto); got != (proto == 6 || proto == 17) {
			t.Errorf("Ported(%d) = %v", proto, got)
		}
	}
	for _, proto := range []int{math.MinInt, math.MinInt + 6, 1<<32 + 6, 1<<32 + 17, math.MaxInt} {
		if packet.Ported(proto) {
			t.Errorf("Ported(%d)", proto)
		}
	}
	for proto := range 256 {
		checkFrame(t, api.Frame{Kind: 2, IP: api.Head{Proto: proto}}, api.OK)
		want := api.ErrForm
		if proto == 6 || proto == 17 {
			want = api.OK
		}
		checkFrame(t, api.Frame{Kind: 2, IP: api.Head{Proto: proto, SrcPort: 1}}, want)
		checkFrame(t, api.Frame{Kind: 2, IP: api.Head{Proto: proto, DstPort: 1}}, want)
	}
}

// P7.1, P7.2: Check and Bytes say what the model says of any frames.
func TestModel(t *testing.T) {
	r := rand.New(rand.NewPCG(7, 1))
	counts := map[api.Errno]int{}
	for range 100000 {
		f := mixedFrame(r)
		want := modelCheck(f)
		checkFrame(t, f, want)
		counts[want]++
	}
	for _, e := range []api.Errno{api.OK, api.ErrRange, api.ErrForm, api.ErrType} {
		if counts[e] < 1000 {
			t.Errorf("only %d frames with the error %d", counts[e], e)
		}
	}
}
