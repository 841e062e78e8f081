package vxlan_test

import (
	"encoding/binary"
	"math"
	"math/rand/v2"

	"leafmesh/api"
	"leafmesh/packet"
)

// The inner frames of the samples, and their bytes.
var (
	plain      = api.Frame{Src: 0x020000000001, Dst: api.Broadcast, Data: 7}
	plainBytes = "\xff\xff\xff\xff\xff\xff\x02\x00\x00\x00\x00\x01\x88\xb5\x00\x00\x00\x00\x00\x00\x00\x07"
	asked      = api.Frame{Src: 0x121314151617, Dst: 0x212223242526, Kind: 1, Data: 0xa1a2a3a4a5a6a7a8, ARP: api.ARP{
		Op: 1, SenderMAC: 0x313233343536, SenderIP: 0x41424344, TargetMAC: 0x515253545556, TargetIP: 0x61626364,
	}}
	askedBytes = "\x21\x22\x23\x24\x25\x26\x12\x13\x14\x15\x16\x17\x08\x06" +
		"\x00\x01\x08\x00\x06\x04\x00\x01\x31\x32\x33\x34\x35\x36\x41\x42\x43\x44\x51\x52\x53\x54\x55\x56\x61\x62\x63\x64" +
		"\xa1\xa2\xa3\xa4\xa5\xa6\xa7\xa8"
	ping      = api.Frame{Src: 0x020000000001, Dst: api.Broadcast, Kind: 2, IP: api.Head{Proto: 1, TTL: 64, Src: 0x0a010001, Dst: 0x0a010002}}
	pingBytes = "\xff\xff\xff\xff\xff\xff\x02\x00\x00\x00\x00\x01\x08\x00" +
		"\x45\x00\x00\x1c\x00\x00\x00\x00\x40\x01\x66\xdd\x0a\x01\x00\x01\x0a\x01\x00\x02" +
		"\x00\x00\x00\x00\x00\x00\x00\x00"
	ported = api.Frame{Src: 0x121314151617, Dst: 0x212223242526, Kind: 2, Data: 0xa1a2a3a4a5a6a7a8, IP: api.Head{
		Src: 0x71727374, Dst: 0x81828384, TTL: 0x91, Proto: 17, SrcPort: 0xb1b2, DstPort: 0xc1c2,
	}}
	portedBytes = "\x21\x22\x23\x24\x25\x26\x12\x13\x14\x15\x16\x17\x08\x00" +
		"\x45\x00\x00\x24\x00\x00\x00\x00\x91\x11\x3f\xdc\x71\x72\x73\x74\x81\x82\x83\x84" +
		"\xb1\xb2\xc1\xc2\x00\x10\x00\x00\xa1\xa2\xa3\xa4\xa5\xa6\xa7\xa8"
	noneBytes = "\x00\x00\x00\x00\x00\x00\x00\x00\x00\x00\x00\x00\x88\xb5\x00\x00\x00\x00\x00\x00\x00\x00"
)

// samples are valid packets with inner frames of all kinds and sizes, and their bytes; in one of them, all bytes of the fields are different.
var samples = []struct {
	p     api.Packet
	bytes string
}{
	// The example of the chapter.
	{
		api.Packet{Src: 0x0aff0001, Dst: 0x0aff0002, TTL: 16, Entropy: 50000, VNI: 100, Inner: plain},
		"\x45\x00\x00\x3a\x00\x00\x00\x00\x10\x11\x94\xb3\x0a\xff\x00\x01\x0a\xff\x00\x02" +
			"\xc3\x50\x12\xb5\x00\x26\x00\x00" + "\x08\x00\x00\x00\x00\x00\x64\x00" + plainBytes,
	},
	{
		api.Packet{Src: 0x71727374, Dst: 0x81828384, TTL: 0x91, Entropy: 0xb1b2, VNI: 0xd1d2d3, Mark: 0xe1e2e3, Inner: ported},
		"\x45\x00\x00\x56\x00\x00\x00\x00\x91\x11\x3f\xaa\x71\x72\x73\x74\x81\x82\x83\x84" +
			"\xb1\xb2\x12\xb5\x00\x42\x00\x00" + "\x08\xe1\xe2\xe3\xd1\xd2\xd3\x00" + portedBytes,
	},
	{
		api.Packet{},
		"\x45\x00\x00\x3a\x00\x00\x00\x00\x00\x11\xba\xb4\x00\x00\x00\x00\x00\x00\x00\x00" +
			"\x00\x00\x12\xb5\x00\x26\x00\x00" + "\x08\x00\x00\x00\x00\x00\x00\x00" + noneBytes,
	},
	{
		api.Packet{Src: math.MaxUint32, Dst: math.MaxUint32, TTL: 255, Entropy: 65535, VNI: api.MaxVNI, Mark: api.MaxVNI, Inner: asked},
		"\x45\x00\x00\x56\x00\x00\x00\x00\xff\x11\xbb\x97\xff\xff\xff\xff\xff\xff\xff\xff" +
			"\xff\xff\x12\xb5\x00\x42\x00\x00" + "\x08\xff\xff\xff\xff\xff\xff\x00" + askedBytes,
	},
	{
		api.Packet{Src: 0x0aff0003, Dst: 0xef000001, TTL: 1, Entropy: 49152, VNI: 1, Mark: 2, Inner: ping},
		"\x45\x00\x00\x4e\x00\x00\x00\x00\x01\x11\xbf\x9c\x0a\xff\x00\x03\xef\x00\x00\x01" +
			"\xc0\x00\x12\xb5\x00\x3a\x00\x00" + "\x08\x00\x00\x02\x00\x00\x01\x00" + pingBytes,
	},
	{
		// The other nine numbers of this IPv4 header add up to 0xffff.
		api.Packet{Dst: 0x0000bab4},
		"\x45\x00\x00\x3a\x00\x00\x00\x00\x00\x11\x00\x00\x00\x00\x00\x00\x00\x00\xba\xb4" +
			"\x00\x00\x12\xb5\x00\x26\x00\x00" + "\x08\x00\x00\x00\x00\x00\x00\x00" + noneBytes,
	},
}

// wrongFrames are frames that layer 7 does not accept, and why.
var wrongFrames = []struct {
	f   api.Frame
	err api.Errno
}{
	{api.Frame{Src: api.MaxMAC + 1}, api.ErrRange},
	{api.Frame{Dst: math.MaxUint64}, api.ErrRange},
	{api.Frame{Src: 1 << 40}, api.ErrForm},
	{api.Frame{Src: api.Broadcast, Kind: 3}, api.ErrForm},
	{api.Frame{Kind: 3}, api.ErrType},
	{api.Frame{Kind: -1}, api.ErrType},
	{api.Frame{ARP: api.ARP{Op: 1}}, api.ErrForm},
	{api.Frame{IP: api.Head{TTL: 1}}, api.ErrForm},
	{api.Frame{Kind: 1}, api.ErrRange},
	{api.Frame{Kind: 1, ARP: api.ARP{Op: 3}}, api.ErrRange},
	{api.Frame{Kind: 2, IP: api.Head{TTL: 256}}, api.ErrRange},
	{api.Frame{Kind: 2, IP: api.Head{Proto: 17, DstPort: 65536}}, api.ErrRange},
	{api.Frame{Kind: 2, IP: api.Head{Proto: 1, SrcPort: 1}}, api.ErrForm},
}

// fits reports whether a number fits in some bits.
func fits(n, bits int) bool { return n >= 0 && n < 1<<bits }

// modelCheck says what Check must return.
func modelCheck(p api.Packet) api.Errno {
	if fits(p.TTL, 8) && fits(p.Entropy, 16) && fits(int(p.VNI), 24) && fits(int(p.Mark), 24) {
		return packet.Check(p.Inner)
	}
	return api.ErrRange
}

// modelBytes encodes a valid packet, part by part as the chapter lists them.
func modelBytes(p api.Packet) []byte {
	order := binary.BigEndian
	inner, _ := packet.Bytes(p.Inner)
	size := uint16(8 + 8 + len(inner))
	head := order.AppendUint16([]byte{0x45, 0}, 20+size)
	head = append(head, 0, 0, 0, 0, byte(p.TTL), 17, 0, 0)
	head = order.AppendUint32(order.AppendUint32(head, uint32(p.Src)), uint32(p.Dst))
	order.PutUint16(head[10:], modelSum(head))
	udp := order.AppendUint16(order.AppendUint16(nil, uint16(p.Entropy)), 4789)
	udp = append(order.AppendUint16(udp, size), 0, 0)
	vxlan := append([]byte{8}, order.AppendUint32(nil, p.Mark)[1:]...)
	vxlan = append(append(vxlan, order.AppendUint32(nil, p.VNI)[1:]...), 0)
	return append(append(append(head, udp...), vxlan...), inner...)
}

// modelSum returns the checksum of a header: adding the carries again is counting modulo 65,535, but that only a sum without carries is 0.
func modelSum(head []byte) uint16 {
	total := 0
	for i := 0; i < len(head); i += 2 {
		total += 256*int(head[i]) + int(head[i+1])
	}
	if total > 0 {
		total = (total-1)%65535 + 1
	}
	return uint16(65535 - total)
}

// modelRead says what Read must return: it looks at each byte in its place, and does not encode the packet again.
func modelRead(b []byte) (api.Packet, api.Fault) {
	fail := func(e api.Errno, at int) (api.Packet, api.Fault) { return api.Packet{}, api.Fault{Err: e, At: at} }
	switch {
	case len(b) < 36:
		return fail(api.ErrShort, len(b))
	case b[9] != 17:
		return fail(api.ErrType, 9)
	case string(b[22:24]) != "\x12\xb5":
		return fail(api.ErrType, 22)
	}
	inner, fault := packet.Read(b[36:])
	if fault.Err != api.OK {
		return fail(fault.Err, 36+fault.At)
	}
	order := binary.BigEndian
	without := string(b[:10]) + "\x00\x00" + string(b[12:20])
	good := string(b[:3]) == "\x45\x00\x00" && int(b[3]) == len(b) && string(b[4:8]) == "\x00\x00\x00\x00"
	good = good && order.Uint16(b[10:]) == modelSum([]byte(without))
	good = good && b[24] == 0 && int(b[25]) == len(b)-20 && b[26] == 0 && b[27] == 0 && b[28] == 8 && b[35] == 0
	if !good {
		return fail(api.ErrForm, 0)
	}
	return api.Packet{
		TTL: int(b[8]), Src: api.IP(order.Uint32(b[12:])), Dst: api.IP(order.Uint32(b[16:])), Entropy: int(order.Uint16(b[20:])),
		Mark: order.Uint32(b[28:]) & 0xffffff, VNI: order.Uint32(b[31:]) & 0xffffff, Inner: inner,
	}, api.Fault{}
}

// pick returns one of some values.
func pick[T any](r *rand.Rand, values ...T) T { return values[r.IntN(len(values))] }

// address returns an address, often at an edge.
func address(r *rand.Rand) api.IP {
	return pick(r, 0, 1, 0x0aff0001, 0xef000001, 1<<31, math.MaxUint32, api.IP(r.Uint32()), api.IP(r.Uint32()))
}

// hardware returns a hardware address that is no group address.
func hardware(r *rand.Rand) api.MAC {
	return pick(r, 0, 1, 1<<41, 0x020000000001, api.GatewayMAC, api.MAC(r.Uint64N(1<<48)), api.MAC(r.Uint64N(1<<48))) &^ (1 << 40)
}

// validFrame returns a frame that layer 7 accepts.
func validFrame(r *rand.Rand) api.Frame {
	f := api.Frame{Src: hardware(r), Dst: pick(r, hardware(r), api.Broadcast), Kind: r.IntN(3), Data: pick(r, 0, 7, math.MaxUint64, r.Uint64())}
	switch f.Kind {
	case 1:
		f.ARP = api.ARP{Op: 1 + r.IntN(2), SenderMAC: hardware(r), SenderIP: address(r), TargetMAC: hardware(r), TargetIP: address(r)}
	case 2:
		f.IP = api.Head{Src: address(r), Dst: address(r), TTL: r.IntN(256), Proto: pick(r, 0, 1, 6, 17, 255, r.IntN(256))}
		if packet.Ported(f.IP.Proto) {
			f.IP.SrcPort, f.IP.DstPort = r.IntN(65536), r.IntN(65536)
		}
	}
	return f
}

// validPacket returns a packet that Check accepts.
func validPacket(r *rand.Rand) api.Packet {
	return api.Packet{
		Src: address(r), Dst: address(r), TTL: pick(r, 0, 1, 16, 255, r.IntN(256)), Entropy: pick(r, 0, 1, 255, 256, 49152, 65535, r.IntN(65536)),
		VNI: pick(r, 0, 1, 255, 256, 65535, 65536, api.MaxVNI, r.Uint32N(1<<24)), Mark: pick(r, 0, 1, 65536, api.MaxVNI, r.Uint32N(1<<24)),
		Inner: validFrame(r),
	}
}

// mixedPacket returns a valid packet, some fields of which were replaced by any values.
func mixedPacket(r *rand.Rand) api.Packet {
	p := validPacket(r)
	number := func() int {
		return pick(r, math.MinInt, -65536, -256, -1, 0, 1, 255, 256, 257, 65535, 65536, 1<<32, 1<<32+1, math.MaxInt)
	}
	label := func() uint32 { return pick(r, api.MaxVNI, api.MaxVNI+1, 1<<25, 1<<31, math.MaxUint32, r.Uint32()) }
	changes := []func(){
		func() { p.TTL = number() },
		func() { p.Entropy = number() },
		func() { p.VNI = label() },
		func() { p.Mark = label() },
		func() { p.Inner = pick(r, wrongFrames...).f },
	}
	for range r.IntN(3) {
		pick(r, changes...)()
	}
	return p
}
