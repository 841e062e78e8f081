package nlri_test

import (
	"encoding/binary"
	"math"
	"math/rand/v2"
	"slices"

	"leafmesh/api"
)

// fields are the fields of a route, with the kinds that use each, whether it is zero, and how it becomes another value than zero.
var fields = []struct {
	name  string
	kinds []int
	zero  func(api.NLRI) bool
	set   func(*api.NLRI)
}{
	{"RD", []int{1, 2, 3, 4, 5}, func(n api.NLRI) bool { return n.RD == 0 }, func(n *api.NLRI) { n.RD = 1 << 63 }},
	{"ESI", []int{1, 2, 4, 5}, func(n api.NLRI) bool { return n.ESI == api.ESI{} }, func(n *api.NLRI) { n.ESI[9] = 1 }},
	{"Tag", []int{1, 2, 3, 5}, func(n api.NLRI) bool { return n.Tag == 0 }, func(n *api.NLRI) { n.Tag = 1 << 31 }},
	{"MAC", []int{2}, func(n api.NLRI) bool { return n.MAC == 0 }, func(n *api.NLRI) { n.MAC = 1 }},
	{"IP", []int{2, 3, 4}, func(n api.NLRI) bool { return n.IP == 0 }, func(n *api.NLRI) { n.IP = 1 }},
	{"HasIP", []int{2, 3, 4}, func(n api.NLRI) bool { return !n.HasIP }, func(n *api.NLRI) { n.HasIP = true }},
	{"Prefix.IP", []int{5}, func(n api.NLRI) bool { return n.Prefix.IP == 0 }, func(n *api.NLRI) { n.Prefix.IP = 1 }},
	{"Prefix.Len", []int{5}, func(n api.NLRI) bool { return n.Prefix.Len == 0 }, func(n *api.NLRI) { n.Prefix.Len = 32 }},
	{"Gateway", []int{5}, func(n api.NLRI) bool { return n.Gateway == 0 }, func(n *api.NLRI) { n.Gateway = 1 }},
	{"Label", []int{1, 2, 5}, func(n api.NLRI) bool { return n.Label == 0 }, func(n *api.NLRI) { n.Label = 1 }},
	{"Label2", []int{2}, func(n api.NLRI) bool { return n.Label2 == 0 }, func(n *api.NLRI) { n.Label2 = 1 }},
}

// strangeKinds are no kinds of routes, some of them with the last byte of one.
var strangeKinds = []int{math.MinInt, -256 + 3, -5, -1, 0, 6, 7, 255, 256 + 2, 1<<32 + 1, math.MaxInt}

// modelCheck says what Check must return.
func modelCheck(n api.NLRI) api.Errno {
	if n.Kind < 1 || n.Kind > 5 {
		return api.ErrType
	}
	for _, f := range fields {
		if !slices.Contains(f.kinds, n.Kind) && !f.zero(n) {
			return api.ErrForm
		}
	}
	if (n.Kind == 3 || n.Kind == 4) && !n.HasIP || n.Kind == 2 && !n.HasIP && n.IP != 0 {
		return api.ErrForm
	}
	if n.MAC > 0xffffffffffff || n.Label > 0xffffff || n.Label2 > 0xffffff || n.Prefix.Len < 0 || n.Prefix.Len > 32 {
		return api.ErrRange
	}
	if uint64(n.Prefix.IP)%(1<<(32-n.Prefix.Len)) != 0 {
		return api.ErrForm
	}
	return api.OK
}

// modelBytes encodes a valid route, part by part as the table of the chapter lists them.
func modelBytes(n api.NLRI) []byte {
	order := binary.BigEndian
	v := order.AppendUint64(nil, n.RD)
	if n.Kind != 3 {
		v = append(v, n.ESI[:]...)
	}
	if n.Kind != 4 {
		v = order.AppendUint32(v, n.Tag)
	}
	switch n.Kind {
	case 2:
		v = append(append(v, 48), order.AppendUint64(nil, uint64(n.MAC))[2:]...)
		if !n.HasIP {
			v = append(v, 0)
		}
	case 5:
		v = append(v, byte(n.Prefix.Len))
		v = order.AppendUint32(v, uint32(n.Prefix.IP))
		v = order.AppendUint32(v, uint32(n.Gateway))
	}
	if n.HasIP {
		v = order.AppendUint32(append(v, 32), uint32(n.IP))
	}
	if n.Kind == 1 || n.Kind == 2 || n.Kind == 5 {
		v = append(v, order.AppendUint32(nil, n.Label)[1:]...)
	}
	if n.Label2 != 0 {
		v = append(v, order.AppendUint32(nil, n.Label2)[1:]...)
	}
	return append([]byte{byte(n.Kind), byte(len(v))}, v...)
}

// modelRead says what Read must return.
func modelRead(b []byte) ([]api.NLRI, api.Fault) {
	var out []api.NLRI
	for at := 0; at < len(b); {
		rest := b[at:]
		if len(out) == 4096 {
			return nil, api.Fault{Err: api.ErrFull, At: at}
		}
		if len(rest) < 2 || len(rest) < 2+int(rest[1]) {
			return nil, api.Fault{Err: api.ErrShort, At: at}
		}
		if rest[0] < 1 || rest[0] > 5 {
			return nil, api.Fault{Err: api.ErrType, At: at}
		}
		n, ok := modelValue(int(rest[0]), rest[2:2+int(rest[1])])
		if !ok {
			return nil, api.Fault{Err: api.ErrForm, At: at}
		}
		out = append(out, n)
		at += 2 + int(rest[1])
	}
	return out, api.Fault{}
}

// number returns the number whose bytes are given.
func number(b []byte) uint64 {
	return binary.BigEndian.Uint64(append(make([]byte, 8-len(b)), b...))
}

// modelValue reads a value, each part at its place, and says whether it is one of the kind.
func modelValue(kind int, v []byte) (api.NLRI, bool) {
	sizes := map[int][]int{1: {25}, 2: {33, 36, 37, 40}, 3: {17}, 4: {23}, 5: {34}}
	if !slices.Contains(sizes[kind], len(v)) {
		return api.NLRI{}, false
	}
	n := api.NLRI{Kind: kind, RD: number(v[:8])}
	switch kind {
	case 1, 2, 5:
		n.ESI, n.Tag = api.ESI(v[8:18]), uint32(number(v[18:22]))
	case 3:
		n.Tag, n.HasIP, n.IP = uint32(number(v[8:12])), true, api.IP(number(v[13:17]))
		return n, v[12] == 32
	case 4:
		n.ESI, n.HasIP, n.IP = api.ESI(v[8:18]), true, api.IP(number(v[19:23]))
		return n, v[18] == 32
	}
	switch kind {
	case 1:
		n.Label = uint32(number(v[22:25]))
	case 2:
		n.MAC = api.MAC(number(v[23:29]))
		labels := v[30:]
		if len(v) == 37 || len(v) == 40 {
			n.HasIP, n.IP, labels = true, api.IP(number(v[30:34])), v[34:]
		}
		n.Label, n.Label2 = uint32(number(labels[:3])), uint32(number(labels[3:]))
		size := map[bool]byte{true: 32}[n.HasIP]
		return n, v[22] == 48 && v[29] == size && (len(labels) == 3 || n.Label2 != 0)
	case 5:
		n.Prefix = api.Prefix{IP: api.IP(number(v[23:27])), Len: int(v[22])}
		n.Gateway, n.Label = api.IP(number(v[27:31])), uint32(number(v[31:34]))
		return n, v[22] <= 32 && number(v[23:27])%(1<<(32-v[22])) == 0
	}
	return n, true
}

// pick returns one of some values.
func pick[T any](r *rand.Rand, values ...T) T { return values[r.IntN(len(values))] }

// validRoute returns a route that Check accepts, often with numbers at the edges.
func validRoute(r *rand.Rand) api.NLRI {
	all := anyRoute(r)
	all.MAC &= 0xffffffffffff
	all.Label &= 0xffffff
	all.Label2 &= 0xffffff
	all.Prefix.Len = r.IntN(33)
	all.Prefix.IP = api.IP(uint64(all.Prefix.IP) >> (32 - all.Prefix.Len) << (32 - all.Prefix.Len))
	n := api.NLRI{Kind: 1 + r.IntN(5), RD: all.RD}
	switch n.Kind {
	case 1:
		n.ESI, n.Tag, n.Label = all.ESI, all.Tag, all.Label
	case 2:
		n.ESI, n.Tag, n.MAC, n.Label, n.Label2 = all.ESI, all.Tag, all.MAC, all.Label, all.Label2
		if all.HasIP {
			n.HasIP, n.IP = true, all.IP
		}
	case 3:
		n.Tag, n.HasIP, n.IP = all.Tag, true, all.IP
	case 4:
		n.ESI, n.HasIP, n.IP = all.ESI, true, all.IP
	case 5:
		n.ESI, n.Tag, n.Prefix, n.Gateway, n.Label = all.ESI, all.Tag, all.Prefix, all.Gateway, all.Label
	}
	return n
}

// anyRoute returns a route with all fields, each of which may have any value.
func anyRoute(r *rand.Rand) api.NLRI {
	var e api.ESI
	for i := range e {
		e[i] = pick(r, 0, 0, 1, 127, 128, 255, byte(r.Uint32()))
	}
	return api.NLRI{
		Kind:    pick(r, -1, 0, 1, 2, 3, 4, 5, 6, r.Int()),
		RD:      pick(r, 0, 1, 1<<63, math.MaxUint64, r.Uint64()),
		ESI:     e,
		Tag:     pick(r, 0, 1, 1<<31, math.MaxUint32, r.Uint32()),
		MAC:     pick(r, 0, 1, 0xffffffffffff, 0x1000000000000, math.MaxUint64, api.MAC(r.Uint64()), api.MAC(r.Uint64N(1<<48))),
		IP:      pick(r, 0, 1, 1<<31, math.MaxUint32, api.IP(r.Uint32())),
		HasIP:   r.IntN(2) == 0,
		Prefix:  api.Prefix{IP: pick(r, 0, 1, 1<<31, 10<<24, math.MaxUint32, api.IP(r.Uint32())), Len: pick(r, math.MinInt, -1, 0, 1, 8, 31, 32, 33, 64, math.MaxInt)},
		Gateway: pick(r, 0, 1, 1<<31, math.MaxUint32, api.IP(r.Uint32())),
		Label:   pick(r, 0, 1, 100, 0xffffff, 0x1000000, math.MaxUint32, r.Uint32()),
		Label2:  pick(r, 0, 0, 1, 100, 0xffffff, 0x1000000, math.MaxUint32, r.Uint32()),
	}
}

// mixedRoute returns a valid route into which some fields of another one were copied.
func mixedRoute(r *rand.Rand) api.NLRI {
	n, other := validRoute(r), anyRoute(r)
	copies := []func(){
		func() { n.Kind = other.Kind },
		func() { n.ESI = other.ESI },
		func() { n.Tag = other.Tag },
		func() { n.MAC = other.MAC },
		func() { n.IP = other.IP },
		func() { n.HasIP = other.HasIP },
		func() { n.Prefix.IP = other.Prefix.IP },
		func() { n.Prefix.Len = other.Prefix.Len },
		func() { n.Gateway = other.Gateway },
		func() { n.Label = other.Label },
		func() { n.Label2 = other.Label2 },
	}
	for range r.IntN(4) {
		pick(r, copies...)()
	}
	return n
}
