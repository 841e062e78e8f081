package msg_test

import (
	"encoding/binary"
	"math"
	"math/rand/v2"
	"slices"
	"strings"

	"leafmesh/api"
	"leafmesh/attr"
)

// marker is what each message begins with.
var marker = strings.Repeat("\xff", 16)

// fields are the fields of a message, the kind that uses each, and how it becomes another value than zero.
var fields = []struct {
	name string
	kind int
	set  func(*api.Msg)
}{
	{"Open.AS", 1, func(m *api.Msg) { m.Open.AS = 1 << 31 }},
	{"Open.Hold", 1, func(m *api.Msg) { m.Open.Hold = 3 }},
	{"Open.ID", 1, func(m *api.Msg) { m.Open.ID = 1 }},
	{"Open.Restart", 1, func(m *api.Msg) { m.Open.Restart = 1 }},
	{"Open.Restarted", 1, func(m *api.Msg) { m.Open.Restarted = true }},
	{"Code", 3, func(m *api.Msg) { m.Code = 1 }},
	{"Sub", 3, func(m *api.Msg) { m.Sub = 1 }},
	{"A.Origin", 2, func(m *api.Msg) { m.A.Origin = 1 }},
	{"A.Path", 2, func(m *api.Msg) { m.A.Path = []uint32{0} }},
	{"A.Next", 2, func(m *api.Msg) { m.A.Next = 1 }},
	{"A.HasMed", 2, func(m *api.Msg) { m.A.HasMed = true }},
	{"A.Med", 2, func(m *api.Msg) { m.A.Med = 1 }},
	{"A.HasPref", 2, func(m *api.Msg) { m.A.HasPref = true }},
	{"A.Pref", 2, func(m *api.Msg) { m.A.Pref = 1 }},
	{"A.HasOriginator", 2, func(m *api.Msg) { m.A.HasOriginator = true }},
	{"A.Originator", 2, func(m *api.Msg) { m.A.Originator = 1 }},
	{"A.Clusters", 2, func(m *api.Msg) { m.A.Clusters = []api.IP{0} }},
	{"A.Comms", 2, func(m *api.Msg) { m.A.Comms = []api.Comm{{}} }},
	{"A.Tunnel.Kind", 2, func(m *api.Msg) { m.A.Tunnel.Kind = 6 }},
	{"A.Tunnel.Label", 2, func(m *api.Msg) { m.A.Tunnel.Label = 1 }},
	{"A.Tunnel.Root", 2, func(m *api.Msg) { m.A.Tunnel.Root = 1 }},
	{"A.Tunnel.Group", 2, func(m *api.Msg) { m.A.Tunnel.Group = 1 }},
	{"Reach", 2, func(m *api.Msg) { m.Reach = []api.NLRI{flood} }},
	{"Unreach", 2, func(m *api.Msg) { m.Unreach = []api.NLRI{{}} }},
}

// strangeKinds are no kinds of messages, some of them with the last byte of one.
var strangeKinds = []int{math.MinInt, -256 + 4, -1, 0, 6, 7, 255, 256 + 2, 1<<32 + 1, math.MaxInt}

// The routes of the tests: the flood route of layer 4, and one of another size.
var (
	flood   = api.NLRI{Kind: 3, RD: 0x00010aff00010005, HasIP: true, IP: 0x0aff0001}
	segment = api.NLRI{Kind: 4, RD: 2, ESI: api.ESI{3, 9: 1}, HasIP: true, IP: 7}
)

// sized returns routes that are encoded in exactly so many bytes, at least 450.
func sized(total int) []api.NLRI {
	const one, other = 19, 25
	for n := range one {
		if rest := total - n*other; rest%one == 0 {
			return append(slices.Repeat([]api.NLRI{segment}, n), slices.Repeat([]api.NLRI{flood}, rest/one)...)
		}
	}
	panic("no routes of this size")
}

// isZero reports whether the fields of a kind are zero.
func isZero(m api.Msg, kind int) bool {
	switch kind {
	case 1:
		return m.Open == api.Open{}
	case 2:
		return attr.Zero(m.A) && len(m.Reach)+len(m.Unreach) == 0
	case 3:
		return m.Code == 0 && m.Sub == 0
	}
	return true
}

// modelBytes says what Bytes must return.
func modelBytes(m api.Msg) ([]byte, api.Errno) {
	if m.Kind < 1 || m.Kind > 5 {
		return nil, api.ErrType
	}
	for kind := 1; kind <= 5; kind++ {
		if kind != m.Kind && !isZero(m, kind) {
			return nil, api.ErrForm
		}
	}
	var body []byte
	switch m.Kind {
	case 1:
		if m.Open.Hold < 0 || m.Open.Hold == 1 || m.Open.Hold == 2 || m.Open.Hold > 65535 || m.Open.Restart < 0 || m.Open.Restart > 4095 {
			return nil, api.ErrRange
		}
		body = modelOpen(m.Open)
	case 2:
		attributes, err := attr.Bytes(m.A, m.Reach, m.Unreach)
		if err != api.OK {
			return nil, err
		}
		if 19+4+len(attributes) > 4096 {
			return nil, api.ErrLong
		}
		body = append([]byte{0, 0, byte(len(attributes) / 256), byte(len(attributes))}, attributes...)
	case 3:
		if m.Code < 0 || m.Code > 255 || m.Sub < 0 || m.Sub > 255 {
			return nil, api.ErrRange
		}
		body = []byte{byte(m.Code), byte(m.Sub)}
	case 5:
		body = []byte{0, 25, 0, 70}
	}
	return []byte(message(m.Kind, string(body))), api.OK
}

// modelOpen encodes the body of an OPEN.
func modelOpen(o api.Open) []byte {
	order := binary.BigEndian
	list := "\x01\x04\x00\x19\x00\x46\x02\x00"
	if o.Restart != 0 || o.Restarted {
		number := uint16(o.Restart)
		if o.Restarted {
			number += 0x8000
		}
		list += "\x40\x06" + string(order.AppendUint16(nil, number)) + "\x00\x19\x46\x80"
	}
	list += "\x41\x04" + string(order.AppendUint32(nil, o.AS))
	number := uint16(23456)
	if o.AS < 65536 {
		number = uint16(o.AS)
	}
	b := order.AppendUint16([]byte{4}, number)
	b = order.AppendUint16(b, uint16(o.Hold))
	b = order.AppendUint32(b, uint32(o.ID))
	return append(b, block(block("", 2, list), -1, "")...)
}

// message encodes a message with a body.
func message(kind int, body string) string {
	return headed(19+len(body), kind) + body
}

// headed returns what comes before the body, with any size.
func headed(size, kind int) string {
	return marker + string([]byte{byte(size >> 8), byte(size), byte(kind)})
}

// block appends an element (a code, a size and bytes) to others; with a negative code, it returns the others behind their size.
func block(others string, code int, value string) string {
	if code < 0 {
		return string([]byte{byte(len(others))}) + others
	}
	return others + string([]byte{byte(code), byte(len(value))}) + value
}

// modelSplit says what Split must return.
func modelSplit(b []byte) (l []api.Msg, rest []byte, f api.Fault) {
	for at := 0; ; {
		left := b[at:]
		if len(left) < 19 {
			return l, left, api.Fault{}
		}
		fail := func(e api.Errno) ([]api.Msg, []byte, api.Fault) { return l, nil, api.Fault{Err: e, At: at} }
		size := int(left[16])*256 + int(left[17])
		if string(left[:16]) != marker {
			return fail(api.ErrMark)
		}
		if size < 19 || size > 4096 {
			return fail(api.ErrLong)
		}
		if left[18] < 1 || left[18] > 5 {
			return fail(api.ErrType)
		}
		if len(left) < size {
			return l, left, api.Fault{}
		}
		m, err := modelBody(int(left[18]), left[19:size])
		if err != api.OK {
			return fail(err)
		}
		l = append(l, m)
		at += size
	}
}

// modelBody reads a body.
func modelBody(kind int, b []byte) (m api.Msg, err api.Errno) {
	m.Kind = kind
	good := true
	switch kind {
	case 1:
		m.Open, err = modelReadOpen(b)
	case 2:
		if len(b) < 4 || b[0] != 0 || b[1] != 0 || int(b[2])*256+int(b[3]) != len(b)-4 {
			return m, api.ErrForm
		}
		var f api.Fault
		m.A, m.Reach, m.Unreach, f = attr.Read(b[4:])
		err = f.Err
	case 3:
		if good = len(b) >= 2; good {
			m.Code, m.Sub = int(b[0]), int(b[1])
		}
	case 4:
		good = len(b) == 0
	case 5:
		good = len(b) == 4 && b[0] == 0 && b[1] == 25 && b[3] == 70
	}
	if !good {
		err = api.ErrForm
	}
	return m, err
}

// element is a parameter or a capability.
type element struct {
	code  byte
	value []byte
}

// modelElements returns the elements of b, and whether it consists of them.
func modelElements(b []byte) (l []element, good bool) {
	for len(b) > 0 {
		if len(b) < 2 || len(b) < 2+int(b[1]) {
			return l, false
		}
		l = append(l, element{b[0], b[2 : 2+int(b[1])]})
		b = b[2+int(b[1]):]
	}
	return l, true
}

// modelReadOpen reads the body of an OPEN.
func modelReadOpen(b []byte) (o api.Open, err api.Errno) {
	if len(b) < 10 {
		return o, api.ErrForm
	}
	if b[0] != 4 {
		return o, api.ErrVersion
	}
	o.Hold, o.ID = int(b[3])*256+int(b[4]), api.IP(binary.BigEndian.Uint32(b[5:]))
	parameters, good := modelElements(b[10:])
	if o.Hold == 1 || o.Hold == 2 || int(b[9]) != len(b)-10 || !good {
		return o, api.ErrForm
	}
	var all []element
	for _, p := range parameters {
		l, good := modelElements(p.value)
		if p.code != 2 || !good {
			return o, api.ErrForm
		}
		all = append(all, l...)
	}
	find := func(is func(element) bool) []byte {
		if i := slices.IndexFunc(all, is); i >= 0 {
			return all[i].value[:len(all[i].value):len(all[i].value)]
		}
		return nil
	}
	evpn := find(func(e element) bool { return e.code == 1 && string(e.value) == "\x00\x19\x00\x46" })
	number := find(func(e element) bool { return e.code == 0x41 && len(e.value) == 4 })
	restart := find(func(e element) bool { return e.code == 0x40 })
	if evpn == nil || number == nil || restart != nil && len(restart) < 2 {
		return o, api.ErrForm
	}
	o.AS = binary.BigEndian.Uint32(number)
	if restart != nil {
		o.Restart, o.Restarted = int(restart[0]%16)*256+int(restart[1]), restart[0] >= 128
	}
	return o, api.OK
}

// equal reports whether two messages are equal; a nil list is equal to an empty one.
func equal(m, n api.Msg) bool {
	a, b := m.A, n.A
	return m.Kind == n.Kind && m.Open == n.Open && m.Code == n.Code && m.Sub == n.Sub &&
		slices.Equal(m.Reach, n.Reach) && slices.Equal(m.Unreach, n.Unreach) &&
		a.Origin == b.Origin && slices.Equal(a.Path, b.Path) && a.Next == b.Next &&
		a.HasMed == b.HasMed && a.Med == b.Med && a.HasPref == b.HasPref && a.Pref == b.Pref &&
		a.HasOriginator == b.HasOriginator && a.Originator == b.Originator &&
		slices.Equal(a.Clusters, b.Clusters) && slices.Equal(a.Comms, b.Comms) && a.Tunnel == b.Tunnel
}

// clone returns a message that shares no memory with m.
func clone(m api.Msg) api.Msg {
	m.Reach, m.Unreach = slices.Clone(m.Reach), slices.Clone(m.Unreach)
	m.A.Path, m.A.Clusters, m.A.Comms = slices.Clone(m.A.Path), slices.Clone(m.A.Clusters), slices.Clone(m.A.Comms)
	return m
}

// pick returns one of some values.
func pick[T any](r *rand.Rand, values ...T) T { return values[r.IntN(len(values))] }

// word returns a number of four bytes, often at an edge.
func word[N ~uint32](r *rand.Rand) N {
	return pick(r, 0, 1, 23456, 65535, 65536, 0x01020304, 1<<31, math.MaxUint32, N(r.Uint32()))
}

// anyRoutes returns some valid routes.
func anyRoutes(r *rand.Rand, least int) []api.NLRI {
	var l []api.NLRI
	for range least + pick(r, 0, 0, 1, 2, r.IntN(60)) {
		n := pick(r, flood, segment)
		n.RD = r.Uint64()
		l = append(l, n)
	}
	return l
}

// validMsg returns a message that Check accepts.
func validMsg(r *rand.Rand) api.Msg {
	m := api.Msg{Kind: 1 + r.IntN(5)}
	switch m.Kind {
	case 1:
		m.Open = api.Open{AS: word[uint32](r), Hold: pick(r, 0, 3, 90, 256, 65535, 3+r.IntN(65533)), ID: word[api.IP](r), Restart: pick(r, 0, 0, 1, 255, 256, 4095, r.IntN(4096)), Restarted: r.IntN(2) == 0}
	case 2:
		m.Unreach = anyRoutes(r, 0)
		if r.IntN(3) == 0 {
			break
		}
		m.Reach = anyRoutes(r, 1)
		m.A = api.Attrs{Origin: r.IntN(3), Next: word[api.IP](r)}
		if r.IntN(2) == 0 {
			m.A.HasPref, m.A.Pref = true, word[uint32](r)
			m.A.Path = []uint32{word[uint32](r), word[uint32](r)}
			m.A.Clusters = []api.IP{word[api.IP](r)}
			m.A.Comms = []api.Comm{{0, 2, 7: byte(r.Uint32())}}
			m.A.Tunnel = api.Tunnel{Kind: 3, Label: r.Uint32N(1 << 24), Root: word[api.IP](r), Group: 5}
		}
	case 3:
		m.Code, m.Sub = r.IntN(256), r.IntN(256)
	}
	return m
}

// mixedMsg returns a valid message, some fields of which were replaced by any values.
func mixedMsg(r *rand.Rand) api.Msg {
	m := validMsg(r)
	changes := []func(){
		func() { m.Kind = pick(r, 1, 2, 3, 4, 5, pick(r, strangeKinds...)) },
		func() { m.Open.AS = word[uint32](r) },
		func() { m.Open.Hold = pick(r, math.MinInt, -3, -1, 0, 1, 2, 3, 65535, 65536, 1<<32+3, math.MaxInt) },
		func() { m.Open.ID = word[api.IP](r) },
		func() { m.Open.Restart = pick(r, math.MinInt, -1, 0, 1, 4095, 4096, 1<<32, math.MaxInt) },
		func() { m.Open.Restarted = r.IntN(2) == 0 },
		func() { m.Code = pick(r, math.MinInt, -1, 0, 1, 255, 256, 1<<32, math.MaxInt) },
		func() { m.Sub = pick(r, math.MinInt, -1, 0, 1, 255, 256, 1<<32, math.MaxInt) },
		func() { m.A = api.Attrs{} },
		func() { m.A.Origin = pick(r, -1, 0, 2, 3) },
		func() { m.A.Comms = make([]api.Comm, pick(r, 0, 64, 65)) },
		func() { m.A.Tunnel.Kind = pick(r, 0, 3, 4, 6) },
		func() {
			m.Reach = pick(r, nil, []api.NLRI{}, []api.NLRI{flood}, []api.NLRI{{}}, sized(3800+r.IntN(400)))
		},
		func() {
			m.Unreach = pick(r, nil, []api.NLRI{}, []api.NLRI{flood}, []api.NLRI{{}}, sized(3800+r.IntN(400)))
		},
		func() { pick(r, fields...).set(&m) },
	}
	for range r.IntN(4) {
		pick(r, changes...)()
	}
	return m
}
