package packet

import (
	"leafmesh/api"
	"leafmesh/wire"
)

// The types of encoded frames.
const (
	codeData = 0x88b5
	codeARP  = 0x0806
	codeIP   = 0x0800
)

// The kinds of address resolution messages, and what such a message begins with: it is about IPv4 addresses on Ethernet.
const (
	opRequest = 1
	opReply   = 2
	arpStart  = "\x00\x01\x08\x00\x06\x04"
)

// ipStart is what an IPv4 header begins with: the version, its size in words, and no service.
const ipStart = 0x4500

// The greatest numbers of one and of two bytes.
const (
	maxByte = 1<<8 - 1
	maxPort = 1<<16 - 1
)

// part is what a frame of one kind has of its own: the type, and the headers between the type and Data.
type part interface {
	// code returns the type.
	code() uint64
	// check returns why the headers are not valid.
	check() api.Errno
	// write appends valid headers.
	write(w *wire.Writer)
}

// The parts of the kinds.
type (
	data struct{}
	arp  api.ARP
	ip   api.Head
)

// partOf returns the part of a frame, or why it is of no kind, or has fields that its kind does not use.
func partOf(f api.Frame) (part, api.Errno) {
	var p part
	// The part is taken out of the frame, in which nothing may be left then.
	switch f.Kind {
	case api.FrameData:
		p = data{}
	case api.FrameARP:
		p, f.ARP = arp(f.ARP), api.ARP{}
	case api.FrameIP:
		p, f.IP = ip(f.IP), api.Head{}
	default:
		return nil, api.ErrType
	}
	if f.ARP != (api.ARP{}) || f.IP != (api.Head{}) {
		return nil, api.ErrForm
	}
	return p, api.OK
}

func (data) code() uint64 { return codeData }

func (data) check() api.Errno { return api.OK }

func (data) write(*wire.Writer) {}

func (arp) code() uint64 { return codeARP }

func (a arp) check() api.Errno {
	if a.Op != opRequest && a.Op != opReply || a.SenderMAC > api.MaxMAC || a.TargetMAC > api.MaxMAC {
		return api.ErrRange
	}
	return api.OK
}

func (a arp) write(w *wire.Writer) {
	w.Bytes([]byte(arpStart))
	w.U16(uint64(a.Op))
	w.U48(uint64(a.SenderMAC))
	w.U32(uint64(a.SenderIP))
	w.U48(uint64(a.TargetMAC))
	w.U32(uint64(a.TargetIP))
}

func (ip) code() uint64 { return codeIP }

func (h ip) check() api.Errno {
	switch {
	case !within(h.TTL, maxByte) || !within(h.Proto, maxByte) || !within(h.SrcPort, maxPort) || !within(h.DstPort, maxPort):
		return api.ErrRange
	case !Ported(h.Proto) && (h.SrcPort != 0 || h.DstPort != 0):
		return api.ErrForm
	}
	return api.OK
}

func (h ip) write(w *wire.Writer) {
	// As zero, the checksum does not count for its own value.
	w.Bytes(h.header(Sum(h.header(0))))
	if Ported(h.Proto) {
		w.U16(uint64(h.SrcPort))
		w.U16(uint64(h.DstPort))
		w.U16(portsPart + dataSize)
		w.U16(0)
	}
}

// header returns the encoded IPv4 header with a checksum.
func (h ip) header(sum uint16) []byte {
	size := ipPart + dataSize
	if Ported(h.Proto) {
		size += portsPart
	}
	w, _ := wire.NewWriter(ipPart)
	w.U16(ipStart)
	w.U16(uint64(size))
	w.U32(0) // The frame is not a fragment.
	w.U8(uint64(h.TTL))
	w.U8(uint64(h.Proto))
	w.U16(uint64(sum))
	w.U32(uint64(h.Src))
	w.U32(uint64(h.Dst))
	return w.Out()
}

// within reports whether n is from 0 to most.
func within(n, most int) bool { return n >= 0 && n <= most }
