package nlri

import (
	"leafmesh/api"
	"leafmesh/wire"
)

// The numbers of bits that a value gives before a hardware address and before an IP address, and before an IP address that is missing.
const (
	macBits  = 48
	ipBits   = 32
	noIPBits = 0
)

// coding is how the routes of one kind are formed and encoded.
type coding interface {
	// shape returns n without the fields that the kind does not use, and with HasIP if the kind always has an address.
	shape(n api.NLRI) api.NLRI
	// write writes the value of a valid route.
	write(w *wire.Writer, n api.NLRI)
	// read returns the route of a value. What is no value of the kind gives some other route, whose bytes differ.
	read(r *wire.Reader) api.NLRI
}

// The kinds of routes.
type (
	auto    struct{}
	mac     struct{}
	flood   struct{}
	segment struct{}
	prefix  struct{}
)

// codings returns the codings of all kinds.
func codings() map[int]coding {
	return map[int]coding{
		api.KindAuto:    auto{},
		api.KindMAC:     mac{},
		api.KindFlood:   flood{},
		api.KindSegment: segment{},
		api.KindPrefix:  prefix{},
	}
}

func (auto) shape(n api.NLRI) api.NLRI {
	return api.NLRI{Kind: n.Kind, RD: n.RD, ESI: n.ESI, Tag: n.Tag, Label: n.Label}
}

func (auto) write(w *wire.Writer, n api.NLRI) {
	writeStart(w, n)
	w.U24(uint64(n.Label))
}

func (auto) read(r *wire.Reader) api.NLRI {
	n := readStart(r, api.KindAuto)
	n.Label = uint32(r.U24())
	return n
}

func (mac) shape(n api.NLRI) api.NLRI {
	s := api.NLRI{Kind: n.Kind, RD: n.RD, ESI: n.ESI, Tag: n.Tag, MAC: n.MAC, HasIP: n.HasIP, Label: n.Label, Label2: n.Label2}
	if n.HasIP {
		s.IP = n.IP
	}
	return s
}

func (mac) write(w *wire.Writer, n api.NLRI) {
	writeStart(w, n)
	w.U8(macBits)
	w.U48(uint64(n.MAC))
	if n.HasIP {
		writeIP(w, n.IP)
	} else {
		w.U8(noIPBits)
	}
	w.U24(uint64(n.Label))
	if n.Label2 != 0 {
		w.U24(uint64(n.Label2))
	}
}

func (mac) read(r *wire.Reader) api.NLRI {
	n := readStart(r, api.KindMAC)
	r.Bytes(1) // The bits of the hardware address: the route has no field for them.
	n.MAC = api.MAC(r.U48())
	if n.HasIP = r.U8() == ipBits; n.HasIP {
		n.IP = api.IP(r.U32())
	}
	n.Label = uint32(r.U24())
	if r.Left() > 0 {
		n.Label2 = uint32(r.U24())
	}
	return n
}

func (flood) shape(n api.NLRI) api.NLRI {
	return api.NLRI{Kind: n.Kind, RD: n.RD, Tag: n.Tag, IP: n.IP, HasIP: true}
}

func (flood) write(w *wire.Writer, n api.NLRI) {
	w.U64(n.RD)
	w.U32(uint64(n.Tag))
	writeIP(w, n.IP)
}

func (flood) read(r *wire.Reader) api.NLRI {
	n := api.NLRI{Kind: api.KindFlood}
	n.RD = r.U64()
	n.Tag = uint32(r.U32())
	n.HasIP = r.U8() == ipBits
	n.IP = api.IP(r.U32())
	return n
}

func (segment) shape(n api.NLRI) api.NLRI {
	return api.NLRI{Kind: n.Kind, RD: n.RD, ESI: n.ESI, IP: n.IP, HasIP: true}
}

func (segment) write(w *wire.Writer, n api.NLRI) {
	w.U64(n.RD)
	w.Bytes(n.ESI[:])
	writeIP(w, n.IP)
}

func (segment) read(r *wire.Reader) api.NLRI {
	n := api.NLRI{Kind: api.KindSegment}
	n.RD = r.U64()
	n.ESI = readESI(r)
	n.HasIP = r.U8() == ipBits
	n.IP = api.IP(r.U32())
	return n
}

func (prefix) shape(n api.NLRI) api.NLRI {
	return api.NLRI{Kind: n.Kind, RD: n.RD, ESI: n.ESI, Tag: n.Tag, Prefix: n.Prefix, Gateway: n.Gateway, Label: n.Label}
}

func (prefix) write(w *wire.Writer, n api.NLRI) {
	writeStart(w, n)
	w.U8(uint64(n.Prefix.Len))
	w.U32(uint64(n.Prefix.IP))
	w.U32(uint64(n.Gateway))
	w.U24(uint64(n.Label))
}

func (prefix) read(r *wire.Reader) api.NLRI {
	n := readStart(r, api.KindPrefix)
	n.Prefix.Len = int(r.U8())
	n.Prefix.IP = api.IP(r.U32())
	n.Gateway = api.IP(r.U32())
	n.Label = uint32(r.U24())
	return n
}

// writeStart writes what the values of three kinds begin with: the distinguisher, the identifier and the tag.
func writeStart(w *wire.Writer, n api.NLRI) {
	w.U64(n.RD)
	w.Bytes(n.ESI[:])
	w.U32(uint64(n.Tag))
}

// readStart reads the same, and returns it as a route of a kind.
func readStart(r *wire.Reader, kind int) api.NLRI {
	n := api.NLRI{Kind: kind}
	n.RD = r.U64()
	n.ESI = readESI(r)
	n.Tag = uint32(r.U32())
	return n
}

// writeIP writes an address behind the number of its bits.
func writeIP(w *wire.Writer, ip api.IP) {
	w.U8(ipBits)
	w.U32(uint64(ip))
}

// readESI reads an identifier; if the value is too short for it, a zero one.
func readESI(r *wire.Reader) api.ESI {
	var e api.ESI
	copy(e[:], r.Bytes(len(e)))
	return e
}
