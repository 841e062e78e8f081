package packet

import (
	"bytes"

	"leafmesh/api"
	"leafmesh/wire"
)

// codeAt is the offset of the type in an encoded frame, protoAt that of the protocol in one of FrameIP. ipSkip is the number of bytes of an IPv4 header before the TTL.
const (
	codeAt  = startSize - 2
	protoAt = startSize + ipSkip + 1
	ipSkip  = 8
)

// Read decodes a frame.
func Read(b []byte) (api.Frame, api.Fault) {
	size, fault := sizeOf(b)
	switch {
	case fault.Err != api.OK:
		return api.Frame{}, fault
	case len(b) < size:
		return api.Frame{}, api.Fault{Err: api.ErrShort, At: len(b)}
	case len(b) > size:
		return api.Frame{}, api.Fault{Err: api.ErrLong, At: size}
	}
	f := decode(b)
	// Writing the frame again is what tells wrong bytes from right ones.
	if again, err := Bytes(f); err != api.OK || !bytes.Equal(again, b) {
		return api.Frame{}, api.Fault{Err: api.ErrForm}
	}
	return f, api.Fault{}
}

// codeOf returns the type of the frame in b, which has at least the bytes of a beginning.
func codeOf(b []byte) int { return int(b[codeAt])<<8 | int(b[codeAt+1]) }

// sizeOf returns the number of bytes of the frame with which b begins, or why that cannot be said.
func sizeOf(b []byte) (int, api.Fault) {
	short := api.Fault{Err: api.ErrShort, At: len(b)}
	if len(b) < startSize {
		return 0, short
	}
	switch codeOf(b) {
	case codeData:
		return plainSize, api.Fault{}
	case codeARP:
		return arpSize, api.Fault{}
	case codeIP:
		switch {
		case len(b) < startSize+ipPart:
			return 0, short
		case Ported(int(b[protoAt])):
			return portedSize, api.Fault{}
		}
		return ipSize, api.Fault{}
	}
	return 0, api.Fault{Err: api.ErrType, At: codeAt}
}

// decode returns the frame in b, which has a type and as many bytes as sizeOf says. What is no frame gives some other one, whose bytes differ.
func decode(b []byte) api.Frame {
	switch codeOf(b) {
	case codeARP:
		return decodeARP([arpSize]byte(b))
	case codeIP:
		return decodeIP(b)
	}
	return decodeData([plainSize]byte(b))
}

func decodeData(b [plainSize]byte) api.Frame {
	r := wire.NewReader(b[:])
	f := readStart(r, api.FrameData)
	f.Data = r.U64()
	return f
}

func decodeARP(b [arpSize]byte) api.Frame {
	r := wire.NewReader(b[:])
	f := readStart(r, api.FrameARP)
	r.Bytes(len(arpStart))
	f.ARP.Op = int(r.U16())
	f.ARP.SenderMAC = api.MAC(r.U48())
	f.ARP.SenderIP = api.IP(r.U32())
	f.ARP.TargetMAC = api.MAC(r.U48())
	f.ARP.TargetIP = api.IP(r.U32())
	f.Data = r.U64()
	return f
}

func decodeIP(b []byte) api.Frame {
	r := wire.NewReader(b)
	f := readStart(r, api.FrameIP)
	r.Bytes(ipSkip)
	f.IP.TTL = int(r.U8())
	f.IP.Proto = int(r.U8())
	r.U16() // The checksum: the frame has no field for it.
	f.IP.Src = api.IP(r.U32())
	f.IP.Dst = api.IP(r.U32())
	if Ported(f.IP.Proto) {
		f.IP.SrcPort = int(r.U16())
		f.IP.DstPort = int(r.U16())
		r.U32() // A size and another checksum, likewise.
	}
	f.Data = r.U64()
	return f
}

// readStart reads the beginning of a frame, and returns it as a frame of a kind.
func readStart(r *wire.Reader, kind int) api.Frame {
	f := api.Frame{Kind: kind}
	f.Dst = api.MAC(r.U48())
	f.Src = api.MAC(r.U48())
	r.U16() // The type: the kind says it.
	return f
}
