package vxlan

import (
	"leafmesh/api"
	"leafmesh/packet"
	"leafmesh/wire"
)

// The numbers of bytes of the headers, one by one and together.
const (
	ipSize    = 20
	udpSize   = 8
	vxlanSize = 8
	headSize  = ipSize + udpSize + vxlanSize
)

// The numbers in the headers that are the same in all packets. ipStart is the version of IP, the size of its header in words, and no service; vxlanFlag says that there is a VNI.
const (
	ipStart   = 0x4500
	protoUDP  = 17
	portVXLAN = 4789
	vxlanFlag = 8
)

// The layers of a packet: each one embeds what it carries. The numbers are those of a valid packet, so that they fit in their bytes.
type (
	frameLayer struct{ frame []byte }

	vxlanLayer struct {
		frameLayer
		mark, vni uint32
	}

	udpLayer struct {
		vxlanLayer
		entropy int
	}

	ipLayer struct {
		udpLayer
		ttl      int
		src, dst api.IP
	}
)

// layersOf returns the layers of a valid packet, whose inner frame is already encoded.
func layersOf(p api.Packet, frame []byte) ipLayer {
	tunnel := vxlanLayer{frameLayer: frameLayer{frame}, mark: p.Mark, vni: p.VNI}
	return ipLayer{udpLayer: udpLayer{vxlanLayer: tunnel, entropy: p.Entropy}, ttl: p.TTL, src: p.Src, dst: p.Dst}
}

// bytes returns the encoded packet.
func (l ipLayer) bytes() []byte {
	b := l.appendIP(nil)
	b = l.appendUDP(b)
	b = l.appendVXLAN(b)
	return l.appendFrame(b)
}

// appendFrame appends the inner frame.
func (l frameLayer) appendFrame(b []byte) []byte { return append(b, l.frame...) }

// appendVXLAN appends the VXLAN header.
func (l vxlanLayer) appendVXLAN(b []byte) []byte {
	w, _ := wire.NewWriter(vxlanSize)
	w.U8(vxlanFlag)
	w.U24(uint64(l.mark))
	w.U24(uint64(l.vni))
	w.U8(0)
	return append(b, w.Out()...)
}

// length returns the number of bytes from the beginning of the UDP header to the end of the packet.
func (l udpLayer) length() int { return udpSize + vxlanSize + len(l.frame) }

// appendUDP appends the UDP header.
func (l udpLayer) appendUDP(b []byte) []byte {
	w, _ := wire.NewWriter(udpSize)
	w.U16(uint64(l.entropy))
	w.U16(portVXLAN)
	w.U16(uint64(l.length()))
	w.U16(0) // As a checksum of UDP, 0 means that there is none.
	return append(b, w.Out()...)
}

// appendIP appends the IPv4 header.
func (l ipLayer) appendIP(b []byte) []byte {
	// As zero, the checksum does not count for its own value.
	return append(b, l.header(packet.Sum(l.header(0)))...)
}

// header returns the IPv4 header with a checksum.
func (l ipLayer) header(sum uint16) []byte {
	w, _ := wire.NewWriter(ipSize)
	w.U16(ipStart)
	w.U16(uint64(ipSize + l.length()))
	w.U32(0) // The packet is not a fragment.
	w.U8(uint64(l.ttl))
	w.U8(protoUDP)
	w.U16(uint64(sum))
	w.U32(uint64(l.src))
	w.U32(uint64(l.dst))
	return w.Out()
}
