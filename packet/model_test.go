package packet_test

import (
	"encoding/binary"
	"math"
	"math/rand/v2"

	"leafmesh/api"
)

// samples are valid frames of all kinds and sizes, and their bytes; all bytes of their fields are different where that is possible.
var samples = []struct {
	f     api.Frame
	bytes string
}{
	// The examples of the chapter.
	{
		api.Frame{Src: 0x020000000001, Dst: api.Broadcast, Data: 7},
		"\xff\xff\xff\xff\xff\xff\x02\x00\x00\x00\x00\x01\x88\xb5\x00\x00\x00\x00\x00\x00\x00\x07",
	},
	{
		api.Frame{Src: 0x020000000001, Dst: api.Broadcast, Kind: 2, IP: api.Head{Proto: 1, TTL: 64, Src: 0x0a010001, Dst: 0x0a010002}},
		"\xff\xff\xff\xff\xff\xff\x02\x00\x00\x00\x00\x01\x08\x00" +
			"\x45\x00\x00\x1c\x00\x00\x00\x00\x40\x01\x66\xdd\x0a\x01\x00\x01\x0a\x01\x00\x02" +
			"\x00\x00\x00\x00\x00\x00\x00\x00",
	},
	{
		api.Frame{Src: 0x121314151617, Dst: 0x212223242526, Data: 0xa1a2a3a4a5a6a7a8},
		"\x21\x22\x23\x24\x25\x26\x12\x13\x14\x15\x16\x17\x88\xb5\xa1\xa2\xa3\xa4\xa5\xa6\xa7\xa8",
	},
	{
		api.Frame{Src: 0x121314151617, Dst: 0x212223242526, Kind: 1, Data: 0xa1a2a3a4a5a6a7a8, ARP: api.ARP{
			Op: 1, SenderMAC: 0x313233343536, SenderIP: 0x41424344, TargetMAC: 0x515253545556, TargetIP: 0x61626364,
		}},
		"\x21\x22\x23\x24\x25\x26\x12\x13\x14\x15\x16\x17\x08\x06" +
			"\x00\x01\x08\x00\x06\x04\x00\x01\x31\x32\x33\x34\x35\x36\x41\x42\x43\x44\x51\x52\x53\x54\x55\x56\x61\x62\x63\x64" +
			"\xa1\xa2\xa3\xa4\xa5\xa6\xa7\xa8",
	},
	{
		api.Frame{Src: 2, Kind: 1, ARP: api.ARP{Op: 2, SenderMAC: api.MaxMAC, TargetMAC: api.MaxMAC}},
		"\x00\x00\x00\x00\x00\x00\x00\x00\x00\x00\x00\x02\x08\x06" +
			"\x00\x01\x08\x00\x06\x04\x00\x02\xff\xff\xff\xff\xff\xff\x00\x00\x00\x00\xff\xff\xff\xff\xff\xff\x00\x00\x00\x00" +
			"\x00\x00\x00\x00\x00\x00\x00\x00",
	},
	{
		api.Frame{Src: 0x121314151617, Dst: 0x212223242526, Kind: 2, Data: 0xa1a2a3a4a5a6a7a8, IP: api.Head{
			Src: 0x71727374, Dst: 0x81828384, TTL: 0x91, Proto: 17, SrcPort: 0xb1b2, DstPort: 0xc1c2,
		}},
		"\x21\x22\x23\x24\x25\x26\x12\x13\x14\x15\x16\x17\x08\x00" +
			"\x45\x00\x00\x24\x00\x00\x00\x00\x91\x11\x3f\xdc\x71\x72\x73\x74\x81\x82\x83\x84" +
			"\xb1\xb2\xc1\xc2\x00\x10\x00\x00\xa1\xa2\xa3\xa4\xa5\xa6\xa7\xa8",
	},
	{
		api.Frame{Kind: 2, IP: api.Head{Src: 0xffffffff, Dst: 0xffffffff, TTL: 255, Proto: 6, SrcPort: 65535, DstPort: 65535}},
		"\x00\x00\x00\x00\x00\x00\x00\x00\x00\x00\x00\x00\x08\x00" +
			"\x45\x00\x00\x24\x00\x00\x00\x00\xff\x06\xbb\xd4\xff\xff\xff\xff\xff\xff\xff\xff" +
			"\xff\xff\xff\xff\x00\x10\x00\x00\x00\x00\x00\x00\x00\x00\x00\x00",
	},
	{
		// The other nine numbers of this header add up to 0xffff.
		api.Frame{Kind: 2, IP: api.Head{Dst: 0x0000bae3}},
		"\x00\x00\x00\x00\x00\x00\x00\x00\x00\x00\x00\x00\x08\x00" +
			"\x45\x00\x00\x1c\x00\x00\x00\x00\x00\x00\x00\x00\x00\x00\x00\x00\x00\x00\xba\xe3" +
			"\x00\x00\x00\x00\x00\x00\x00\x00",
	},
}

// fields are the fields of a frame that one kind alone uses, and how each becomes another value than zero.
var fields = []struct {
	name string
	kind int
	set  func(*api.Frame)
}{
	{"ARP.Op", 1, func(f *api.Frame) { f.ARP.Op = 1 }},
	{"ARP.SenderMAC", 1, func(f *api.Frame) { f.ARP.SenderMAC = 1 }},
	{"ARP.SenderIP", 1, func(f *api.Frame) { f.ARP.SenderIP = 1 }},
	{"ARP.TargetMAC", 1, func(f *api.Frame) { f.ARP.TargetMAC = 1 }},
	{"ARP.TargetIP", 1, func(f *api.Frame) { f.ARP.TargetIP = 1 }},
	{"IP.Src", 2, func(f *api.Frame) { f.IP.Src = 1 }},
	{"IP.Dst", 2, func(f *api.Frame) { f.IP.Dst = 1 }},
	{"IP.TTL", 2, func(f *api.Frame) { f.IP.TTL = 1 }},
	{"IP.Proto", 2, func(f *api.Frame) { f.IP.Proto = 1 }},
	{"IP.SrcPort", 2, func(f *api.Frame) { f.IP.SrcPort = 1 }},
	{"IP.DstPort", 2, func(f *api.Frame) { f.IP.DstPort = 1 }},
}

// strangeKinds are no kinds of frames, some of them with the last byte of one.
var strangeKinds = []int{math.MinInt, -256, -2, -1, 3, 4, 255, 256, 256 + 1, 1 << 32, 1<<32 + 2, math.MaxInt}

// modelCheck says what Check must return.
func modelCheck(f api.Frame) api.Errno {
	const most = 0xffffffffffff
	if f.Src > most || f.Dst > most {
		return api.ErrRange
	}
	if f.Src/0x10000000000%2 == 1 {
		return api.ErrForm
	}
	if f.Kind < 0 || f.Kind > 2 {
		return api.ErrType
	}
	a, h := f.ARP, f.IP
	if a != (api.ARP{}) && f.Kind != 1 || h != (api.Head{}) && f.Kind != 2 {
		return api.ErrForm
	}
	if f.Kind == 1 && (a.Op < 1 || a.Op > 2 || a.SenderMAC > most || a.TargetMAC > most) {
		return api.ErrRange
	}
	if h.TTL < 0 || h.TTL > 255 || h.Proto < 0 || h.Proto > 255 || h.SrcPort < 0 || h.SrcPort > 65535 || h.DstPort < 0 || h.DstPort > 65535 {
		return api.ErrRange
	}
	if h.Proto != 6 && h.Proto != 17 && h.SrcPort+h.DstPort != 0 {
		return api.ErrForm
	}
	return api.OK
}

// mac appends a hardware address.
func mac(b []byte, m api.MAC) []byte {
	return append(b, binary.BigEndian.AppendUint64(nil, uint64(m))[2:]...)
}

// modelBytes encodes a valid frame, part by part as the table of the chapter lists them.
func modelBytes(f api.Frame) []byte {
	order := binary.BigEndian
	b := mac(mac(nil, f.Dst), f.Src)
	a, h := f.ARP, f.IP
	switch f.Kind {
	case 0:
		b = append(b, 0x88, 0xb5)
	case 1:
		b = append(b, 8, 6, 0, 1, 8, 0, 6, 4, 0, byte(a.Op))
		b = order.AppendUint32(mac(b, a.SenderMAC), uint32(a.SenderIP))
		b = order.AppendUint32(mac(b, a.TargetMAC), uint32(a.TargetIP))
	case 2:
		var ports []byte
		if h.Proto == 6 || h.Proto == 17 {
			ports = order.AppendUint16(order.AppendUint16(nil, uint16(h.SrcPort)), uint16(h.DstPort))
			ports = append(ports, 0, 16, 0, 0)
		}
		size := 20 + len(ports) + 8
		header := []byte{0x45, 0, byte(size / 256), byte(size), 0, 0, 0, 0, byte(h.TTL), byte(h.Proto), 0, 0}
		header = order.AppendUint32(order.AppendUint32(header, uint32(h.Src)), uint32(h.Dst))
		order.PutUint16(header[10:], modelSum(header))
		b = append(append(append(b, 8, 0), header...), ports...)
	}
	return order.AppendUint64(b, f.Data)
}

// modelSum says what Sum must return: adding the carries again is counting modulo 65,535, but that only a sum without carries is 0.
func modelSum(b []byte) uint16 {
	var total uint64
	for i, x := range b {
		if i%2 == 0 {
			total += 256 * uint64(x)
		} else {
			total += uint64(x)
		}
	}
	if total > 0 {
		total = (total-1)%65535 + 1
	}
	return uint16(65535 - total)
}

// modelRead says what Read must return: it looks at each byte in its place, and does not encode the frame again.
func modelRead(b []byte) (api.Frame, api.Fault) {
	fail := func(e api.Errno, at int) (api.Frame, api.Fault) { return api.Frame{}, api.Fault{Err: e, At: at} }
	if len(b) < 14 {
		return fail(api.ErrShort, len(b))
	}
	var size int
	switch string(b[12:14]) {
	case "\x88\xb5":
		size = 22
	case "\x08\x06":
		size = 50
	case "\x08\x00":
		size = 42
		if len(b) > 23 && (b[23] == 6 || b[23] == 17) {
			size = 50
		}
	default:
		return fail(api.ErrType, 12)
	}
	if len(b) < size {
		return fail(api.ErrShort, len(b))
	}
	if len(b) > size {
		return fail(api.ErrLong, size)
	}
	f, good := modelDecode(b)
	if !good || modelCheck(f) != api.OK {
		return fail(api.ErrForm, 0)
	}
	return f, api.Fault{}
}

// modelDecode returns the frame of as many bytes as its type needs, and whether the bytes that are no fields are right.
func modelDecode(b []byte) (f api.Frame, good bool) {
	order := binary.BigEndian
	address := func(at int) api.MAC { return api.MAC(order.Uint16(b[at:]))<<32 | api.MAC(order.Uint32(b[at+2:])) }
	f = api.Frame{Dst: address(0), Src: address(6), Data: order.Uint64(b[len(b)-8:])}
	switch {
	case b[12] == 0x88:
		return f, true
	case b[13] == 6:
		f.Kind = 1
		f.ARP = api.ARP{
			Op:        int(order.Uint16(b[20:])),
			SenderMAC: address(22), SenderIP: api.IP(order.Uint32(b[28:])),
			TargetMAC: address(32), TargetIP: api.IP(order.Uint32(b[38:])),
		}
		return f, string(b[14:20]) == "\x00\x01\x08\x00\x06\x04"
	}
	f.Kind = 2
	f.IP = api.Head{Src: api.IP(order.Uint32(b[26:])), Dst: api.IP(order.Uint32(b[30:])), TTL: int(b[22]), Proto: int(b[23])}
	good = string(b[14:17]) == "\x45\x00\x00" && int(b[17]) == len(b)-14 && string(b[18:22]) == "\x00\x00\x00\x00"
	if len(b) == 50 {
		f.IP.SrcPort, f.IP.DstPort = int(order.Uint16(b[34:])), int(order.Uint16(b[36:]))
		good = good && string(b[38:42]) == "\x00\x10\x00\x00"
	}
	header := append(append([]byte{}, b[14:24]...), b[26:34]...)
	return f, good && order.Uint16(b[24:]) == modelSum(header)
}

// pick returns one of some values.
func pick[T any](r *rand.Rand, values ...T) T { return values[r.IntN(len(values))] }

// word returns an address, often at an edge.
func word(r *rand.Rand) api.IP {
	return pick(r, 0, 1, 0x0a010001, 0x01020304, 1<<31, math.MaxUint32, api.IP(r.Uint32()), api.IP(r.Uint32()))
}

// hardware returns a valid hardware address, often at an edge.
func hardware(r *rand.Rand) api.MAC {
	return pick(r, 0, 1, 1<<40, 1<<41, 0x020000000001, api.GatewayMAC, api.Broadcast, api.MAC(r.Uint64N(1<<48)), api.MAC(r.Uint64N(1<<48)))
}

// port returns a port.
func port(r *rand.Rand) int { return pick(r, 0, 1, 255, 256, 65535, r.IntN(65536)) }

// validFrame returns a frame that Check accepts.
func validFrame(r *rand.Rand) api.Frame {
	f := api.Frame{Src: hardware(r) &^ (1 << 40), Dst: hardware(r), Kind: r.IntN(3), Data: pick(r, 0, 7, 1<<63, math.MaxUint64, r.Uint64())}
	switch f.Kind {
	case 1:
		f.ARP = api.ARP{Op: 1 + r.IntN(2), SenderMAC: hardware(r), SenderIP: word(r), TargetMAC: hardware(r), TargetIP: word(r)}
	case 2:
		f.IP = api.Head{Src: word(r), Dst: word(r), TTL: pick(r, 0, 1, 64, 255, r.IntN(256)), Proto: pick(r, 0, 1, 6, 17, 255, r.IntN(256))}
		if f.IP.Proto == 6 || f.IP.Proto == 17 {
			f.IP.SrcPort, f.IP.DstPort = port(r), port(r)
		}
	}
	return f
}

// mixedFrame returns a valid frame, some fields of which were replaced by any values.
func mixedFrame(r *rand.Rand) api.Frame {
	f := validFrame(r)
	address := func() api.MAC { return pick(r, hardware(r), api.MaxMAC+1, 1<<63, math.MaxUint64) }
	number := func() int {
		return pick(r, math.MinInt, -256, -1, 0, 1, 2, 3, 6, 17, 255, 256, 256+6, 65535, 65536, 1<<32, 1<<32+1, math.MaxInt)
	}
	changes := []func(){
		func() { f.Src = address() },
		func() { f.Dst = address() },
		func() { f.Kind = pick(r, 0, 1, 2, pick(r, strangeKinds...)) },
		func() { f.ARP.Op = number() },
		func() { f.ARP.SenderMAC = address() },
		func() { f.ARP.TargetMAC = address() },
		func() { f.ARP = api.ARP{} },
		func() { f.IP.TTL = number() },
		func() { f.IP.Proto = number() },
		func() { f.IP.SrcPort = number() },
		func() { f.IP.DstPort = number() },
		func() { f.IP.SrcPort, f.IP.DstPort = 0, 0 },
		func() { f.IP = api.Head{} },
		func() { pick(r, fields...).set(&f) },
	}
	for range r.IntN(4) {
		pick(r, changes...)()
	}
	return f
}
