package vxlan

import (
	"bytes"

	"leafmesh/api"
	"leafmesh/packet"
	"leafmesh/wire"
)

// The offsets in an encoded packet of the TTL, of the protocol, and of the port to which it goes.
const (
	ttlAt   = 8
	protoAt = ttlAt + 1
	portAt  = ipSize + 2
)

// Read decodes a packet.
func Read(b []byte) (api.Packet, api.Fault) {
	if fault := checkHead(b); fault.Err != api.OK {
		return api.Packet{}, fault
	}
	inner, fault := readInner(b)
	if fault.Err != api.OK {
		return api.Packet{}, fault
	}
	p := decode([headSize]byte(b[:headSize]))
	p.Inner = inner
	// Writing the packet again is what tells wrong bytes from right ones.
	if again, err := Bytes(p); err != api.OK || !bytes.Equal(again, b) {
		return api.Packet{}, api.Fault{Err: api.ErrForm}
	}
	return p, api.Fault{}
}

// checkHead returns why b does not begin with the headers of a VXLAN packet.
func checkHead(b []byte) api.Fault {
	switch {
	case len(b) < headSize:
		return api.Fault{Err: api.ErrShort, At: len(b)}
	case b[protoAt] != protoUDP:
		return api.Fault{Err: api.ErrType, At: protoAt}
	case int(b[portAt])<<8|int(b[portAt+1]) != portVXLAN:
		return api.Fault{Err: api.ErrType, At: portAt}
	}
	return api.Fault{}
}

// readInner decodes the inner frame of the packet in b, which has all of its headers.
func readInner(b []byte) (f api.Frame, fault api.Fault) {
	defer func() {
		// The frame is read by itself, but the fault is one of the packet.
		if fault.Err != api.OK {
			fault.At += headSize
		}
	}()
	return packet.Read(b[headSize:])
}

// decode returns the packet with some headers, without its inner frame. What are no headers give some other packet, whose bytes differ.
func decode(head [headSize]byte) api.Packet {
	r := wire.NewReader(head[:])
	var p api.Packet
	r.Bytes(ttlAt)
	p.TTL = int(r.U8())
	r.U8()  // The protocol: it is always the same.
	r.U16() // The checksum: the packet has no field for it.
	p.Src = api.IP(r.U32())
	p.Dst = api.IP(r.U32())
	p.Entropy = int(r.U16())
	r.U48() // The other port, the length and another checksum, likewise.
	r.U8()  // The flag, likewise.
	p.Mark = uint32(r.U24())
	p.VNI = uint32(r.U24())
	return p
}
