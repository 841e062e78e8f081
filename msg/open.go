package msg

import (
	"cmp"

	"leafmesh/api"
	"leafmesh/wire"
)

// version is the version of BGP, minHold the least hold time but 0.
const (
	version = 4
	minHold = 3
)

// A header has two bytes for an AS number. One that is greater than maxShort is written as the number that stands for all of those.
const (
	maxShort = 1<<16 - 1
	standIn  = 23456
)

// parameter is the code of the parameters that contain capabilities. The others are codes of capabilities: the address family, route refresh, graceful restart, and the AS number of four bytes.
const (
	parameter   = 2
	codeFamily  = 0x01
	codeRefresh = 0x02
	codeRestart = 0x40
	codeNumber  = 0x41
)

// elementHead is the number of bytes before the value of a parameter or a capability: its code and the size of the value. maxElement is the greatest such size, numberSize that of an AS number.
const (
	elementHead = 2
	maxElement  = 1<<8 - 1
	numberSize  = 4
)

// The value of the capability of graceful restart is a number of two bytes, which consists of the bit restarted and the restart time, and restartFamily: EVPN, whose forwarding goes on.
const (
	restarted     = 1 << 15
	restartFamily = "\x00\x19\x46\x80"
	restartSize   = 2 + len(restartFamily)
)

// writeOpen appends the body of an OPEN, or returns why it is not valid.
func writeOpen(w *wire.Writer, o open) api.Errno {
	if o.Hold != 0 && (o.Hold < minHold || o.Hold > api.MaxHold) || o.Restart < 0 || o.Restart > api.MaxRestart {
		return api.ErrRange
	}
	number := o.AS
	if number > maxShort {
		number = standIn
	}
	list := capabilities(o)
	return cmp.Or(
		w.U8(version),
		w.U16(uint64(number)),
		w.U16(uint64(o.Hold)),
		w.U32(uint64(o.ID)),
		w.U8(uint64(elementHead+len(list))),
		w.U8(parameter),
		w.U8(uint64(len(list))),
		w.Bytes(list),
	)
}

// capabilities returns the encoded capabilities of a valid OPEN.
func capabilities(o open) []byte {
	w, _ := wire.NewWriter(maxElement)
	start := func(code, size int) {
		w.U8(uint64(code))
		w.U8(uint64(size))
	}
	start(codeFamily, len(family))
	w.Bytes([]byte(family))
	start(codeRefresh, 0)
	if o.Restart != 0 || o.Restarted {
		number := uint64(o.Restart)
		if o.Restarted {
			number |= restarted
		}
		start(codeRestart, restartSize)
		w.U16(number)
		w.Bytes([]byte(restartFamily))
	}
	start(codeNumber, numberSize)
	w.U32(uint64(o.AS))
	return w.Out()
}

// readOpen reads the body of an OPEN.
func readOpen(body []byte) (api.Msg, api.Errno) {
	r := wire.NewReader(body)
	number := r.U8()
	r.U16() // The short AS number: that of the capability counts.
	hold := int(r.U16())
	id := api.IP(r.U32())
	size := int(r.U8())
	switch {
	case r.Fault().Err != api.OK:
		return api.Msg{}, api.ErrForm
	case number != version:
		return api.Msg{}, api.ErrVersion
	case hold > 0 && hold < minHold || size != r.Left():
		return api.Msg{}, api.ErrForm
	}
	var said offer
	formed := visit(r.Bytes(size), func(code byte, list []byte) bool {
		return code == parameter && visit(list, said.take)
	})
	if !formed || !said.evpn || !said.numbered {
		return api.Msg{}, api.ErrForm
	}
	return api.Msg{Kind: api.MsgOpen, Open: api.Open{
		AS:        said.as,
		Hold:      hold,
		ID:        id,
		Restart:   int(said.restart & api.MaxRestart),
		Restarted: said.restart&restarted != 0,
	}}, api.OK
}

// visit passes the elements of b, each of which is a code, a size and as many bytes, to take, up to the first one that take refuses. It reports whether b consists of elements, and none was refused.
func visit(b []byte, take func(code byte, value []byte) bool) bool {
	if len(b) == 0 {
		return true
	}
	if len(b) < elementHead || len(b)-elementHead < int(b[1]) {
		return false
	}
	end := elementHead + int(b[1])
	return take(b[0], b[elementHead:end]) && visit(b[end:], take)
}

// offer is what capabilities have said so far: whether EVPN, an AS number and graceful restart were among them, the AS number, and the number of graceful restart.
type offer struct {
	evpn, numbered, restarts bool
	as                       uint32
	restart                  uint64
}

// take adds a capability, and reports whether it is long enough. The first one with a number counts.
func (o *offer) take(code byte, value []byte) bool {
	r := wire.NewReader(value)
	switch {
	case code == codeFamily && string(value) == family:
		o.evpn = true
	case code == codeNumber && len(value) == numberSize && !o.numbered:
		o.numbered, o.as = true, uint32(r.U32())
	case code == codeRestart && !o.restarts:
		o.restarts, o.restart = true, r.U16()
	}
	return r.Fault().Err == api.OK
}
