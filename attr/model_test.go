package attr_test

import (
	"encoding/binary"
	"math"
	"math/rand/v2"
	"slices"

	"leafmesh/api"
	"leafmesh/nlri"
)

// fields are the fields of attributes, and how each becomes another value than zero that Check accepts, at most together with what it needs.
var fields = []struct {
	name string
	set  func(*api.Attrs)
}{
	{"Origin", func(a *api.Attrs) { a.Origin = 1 }},
	{"Path", func(a *api.Attrs) { a.Path = []uint32{0} }},
	{"Next", func(a *api.Attrs) { a.Next = 1 << 31 }},
	{"HasMed", func(a *api.Attrs) { a.HasMed = true }},
	{"HasPref", func(a *api.Attrs) { a.HasPref = true }},
	{"HasOriginator", func(a *api.Attrs) { a.HasOriginator = true }},
	{"Clusters", func(a *api.Attrs) { a.Clusters = []api.IP{0} }},
	{"Comms", func(a *api.Attrs) { a.Comms = []api.Comm{{}} }},
	{"Tunnel", func(a *api.Attrs) { a.Tunnel.Kind = 6 }},
}

// table is the table of the chapter: the codes with their flags, in the order in which they are written.
var table = []struct{ code, flags byte }{
	{1, 0x40}, {2, 0x40}, {4, 0x80}, {5, 0x40}, {9, 0x80}, {10, 0x80}, {14, 0x80}, {15, 0x80}, {16, 0xc0}, {22, 0xc0},
}

// modelCheck says what Check must return.
func modelCheck(a api.Attrs) api.Errno {
	if a.Origin != 0 && a.Origin != 1 && a.Origin != 2 {
		return api.ErrRange
	}
	if len(a.Path) > 32 || len(a.Clusters) > 16 || len(a.Comms) > 64 {
		return api.ErrLong
	}
	if a.Med != 0 && !a.HasMed || a.Pref != 0 && !a.HasPref || a.Originator != 0 && !a.HasOriginator {
		return api.ErrForm
	}
	t := a.Tunnel
	if t.Kind != 0 && t.Kind != 3 && t.Kind != 6 {
		return api.ErrType
	}
	if t.Label > 0xffffff {
		return api.ErrRange
	}
	if t.Kind == 0 && (t.Label != 0 || t.Root != 0 || t.Group != 0) || t.Kind == 6 && t.Group != 0 {
		return api.ErrForm
	}
	return api.OK
}

// words appends numbers of four bytes.
func words[N ~uint32](b []byte, list ...N) []byte {
	for _, n := range list {
		b = binary.BigEndian.AppendUint32(b, uint32(n))
	}
	return b
}

// encoded returns routes as layer 4 encodes them.
func encoded(routes []api.NLRI) []byte {
	var b []byte
	for _, n := range routes {
		one, _ := nlri.Bytes(n)
		b = append(b, one...)
	}
	return b
}

// modelValues says which values attributes and routes have, by code.
func modelValues(a api.Attrs, reach, unreach []api.NLRI) map[byte][]byte {
	v := map[byte][]byte{}
	if len(reach) > 0 {
		v[1] = []byte{byte(a.Origin)}
		v[2] = nil
		if len(a.Path) > 0 {
			v[2] = words([]byte{2, byte(len(a.Path))}, a.Path...)
		}
		v[14] = append(append(words([]byte{0, 25, 70, 4}, a.Next), 0), encoded(reach)...)
	}
	if a.HasMed {
		v[4] = words(nil, a.Med)
	}
	if a.HasPref {
		v[5] = words(nil, a.Pref)
	}
	if a.HasOriginator {
		v[9] = words(nil, a.Originator)
	}
	if len(a.Clusters) > 0 {
		v[10] = words(nil, a.Clusters...)
	}
	if len(unreach) > 0 || len(reach) == 0 {
		v[15] = append([]byte{0, 25, 70}, encoded(unreach)...)
	}
	for _, c := range a.Comms {
		v[16] = append(v[16], c[:]...)
	}
	if t := a.Tunnel; t.Kind != 0 {
		v[22] = words([]byte{0, byte(t.Kind), byte(t.Label >> 16), byte(t.Label >> 8), byte(t.Label)}, t.Root)
		if t.Kind == 3 {
			v[22] = words(v[22], t.Group)
		}
	}
	return v
}

// attribute encodes an attribute, with a length of two bytes if it needs one, or is told so.
func attribute(flags, code byte, value []byte, long bool) []byte {
	if len(value) > 255 || long {
		b := []byte{flags | 0x10, code, byte(len(value) >> 8), byte(len(value))}
		return append(b, value...)
	}
	return append([]byte{flags, code, byte(len(value))}, value...)
}

// modelPieces returns the encoded attributes one by one.
func modelPieces(a api.Attrs, reach, unreach []api.NLRI) [][]byte {
	var pieces [][]byte
	values := modelValues(a, reach, unreach)
	for _, k := range table {
		if v, present := values[k.code]; present {
			pieces = append(pieces, attribute(k.flags, k.code, v, false))
		}
	}
	return pieces
}

// modelBytes says what Bytes must return.
func modelBytes(a api.Attrs, reach, unreach []api.NLRI) ([]byte, api.Errno) {
	if err := modelCheck(a); err != api.OK {
		return nil, err
	}
	if len(reach) == 0 && len(modelValues(a, nil, nil)) > 1 || len(reach) == 0 && (a.Origin != 0 || len(a.Path) > 0 || a.Next != 0) {
		return nil, api.ErrForm
	}
	for _, n := range slices.Concat(reach, unreach) {
		if err := nlri.Check(n); err != api.OK {
			return nil, err
		}
	}
	b := slices.Concat(modelPieces(a, reach, unreach)...)
	if len(b) > 65535 {
		return nil, api.ErrLong
	}
	return b, api.OK
}

// content is what Read returns without a fault.
type content struct {
	a              api.Attrs
	reach, unreach []api.NLRI
}

// modelRead says what Read must return.
func modelRead(b []byte) (content, api.Fault) {
	var c content
	seen := map[byte]bool{}
	for at := 0; at < len(b); {
		fail := func(e api.Errno) (content, api.Fault) { return content{}, api.Fault{Err: e, At: at} }
		rest := b[at:]
		start := 3
		if rest[0]&0x10 != 0 {
			start = 4
		}
		if len(rest) < start {
			return fail(api.ErrShort)
		}
		size := int(rest[2])
		if start == 4 {
			size = size<<8 + int(rest[3])
		}
		if len(rest) < start+size {
			return fail(api.ErrShort)
		}
		flags, code, value := rest[0], rest[1], rest[start:start+size]
		i := slices.IndexFunc(table, func(k struct{ code, flags byte }) bool { return k.code == code })
		if i < 0 && flags < 0x80 {
			return fail(api.ErrAttr)
		}
		if i >= 0 {
			want := []byte{table[i].flags, table[i].flags + 0x10}
			if code == 16 || code == 22 {
				want = []byte{0xc0, 0xd0, 0xe0, 0xf0}
			}
			if !slices.Contains(want, flags) {
				return fail(api.ErrAttr)
			}
			if seen[code] {
				return fail(api.ErrDouble)
			}
			seen[code] = true
			if !c.modelFill(code, value) {
				return fail(api.ErrForm)
			}
		}
		at += start + size
	}
	if seen[14] && (!seen[1] || !seen[2]) {
		return content{}, api.Fault{Err: api.ErrAttr, At: len(b)}
	}
	if !seen[14] {
		c.a = api.Attrs{}
	}
	return c, api.Fault{}
}

// number returns the number whose bytes are given.
func number(b []byte) uint32 {
	return binary.BigEndian.Uint32(append(make([]byte, 4-len(b)), b...))
}

// modelFill reads a value of a code, each part at its place, and says whether it is one.
func (c *content) modelFill(code byte, v []byte) bool {
	a := &c.a
	count := len(v) / 4
	switch code {
	case 1:
		if len(v) != 1 || v[0] > 2 {
			return false
		}
		a.Origin = int(v[0])
	case 2:
		if len(v) == 0 {
			return true
		}
		if len(v) < 6 || v[0] != 2 || v[1] == 0 || v[1] > 32 || len(v) != 2+4*int(v[1]) {
			return false
		}
		for i := range int(v[1]) {
			a.Path = append(a.Path, number(v[2+4*i:6+4*i]))
		}
	case 4, 5, 9:
		if len(v) != 4 {
			return false
		}
		switch code {
		case 4:
			a.HasMed, a.Med = true, number(v)
		case 5:
			a.HasPref, a.Pref = true, number(v)
		case 9:
			a.HasOriginator, a.Originator = true, api.IP(number(v))
		}
	case 10:
		if len(v) != 4*count || count < 1 || count > 16 {
			return false
		}
		for i := range count {
			a.Clusters = append(a.Clusters, api.IP(number(v[4*i:4*i+4])))
		}
	default:
		return c.modelFillLate(code, v)
	}
	return true
}

// modelFillLate does the same for the later codes.
func (c *content) modelFillLate(code byte, v []byte) bool {
	var f api.Fault
	switch code {
	case 14:
		if len(v) < 9 || string(v[:4]) != "\x00\x19\x46\x04" || v[8] != 0 {
			return false
		}
		c.a.Next = api.IP(number(v[4:8]))
		c.reach, f = nlri.Read(v[9:])
		return f.Err == api.OK && len(c.reach) > 0
	case 15:
		if len(v) < 3 || string(v[:3]) != "\x00\x19\x46" {
			return false
		}
		c.unreach, f = nlri.Read(v[3:])
		return f.Err == api.OK
	case 16:
		if len(v)%8 != 0 || len(v) < 8 || len(v) > 8*64 {
			return false
		}
		for part := range slices.Chunk(v, 8) {
			c.a.Comms = append(c.a.Comms, api.Comm(part))
		}
	case 22:
		if len(v) < 2 || v[0] != 0 || !(v[1] == 6 && len(v) == 9) && !(v[1] == 3 && len(v) == 13) {
			return false
		}
		c.a.Tunnel = api.Tunnel{Kind: int(v[1]), Label: number(v[2:5]), Root: api.IP(number(v[5:9])), Group: api.IP(number(v[9:]))}
	}
	return true
}

// equal reports whether two contents are equal; a nil list is equal to an empty one.
func (c content) equal(d content) bool {
	x, y := c.a, d.a
	return x.Origin == y.Origin && slices.Equal(x.Path, y.Path) && x.Next == y.Next &&
		x.HasMed == y.HasMed && x.Med == y.Med && x.HasPref == y.HasPref && x.Pref == y.Pref &&
		x.HasOriginator == y.HasOriginator && x.Originator == y.Originator &&
		slices.Equal(x.Clusters, y.Clusters) && slices.Equal(x.Comms, y.Comms) && x.Tunnel == y.Tunnel &&
		slices.Equal(c.reach, d.reach) && slices.Equal(c.unreach, d.unreach)
}

// clone returns a content that shares no memory with c.
func (c content) clone() content {
	c.a.Path, c.a.Clusters, c.a.Comms = slices.Clone(c.a.Path), slices.Clone(c.a.Clusters), slices.Clone(c.a.Comms)
	c.reach, c.unreach = slices.Clone(c.reach), slices.Clone(c.unreach)
	return c
}

// pick returns one of some values.
func pick[T any](r *rand.Rand, values ...T) T { return values[r.IntN(len(values))] }

// word returns a number of four bytes, often at an edge.
func word[N ~uint32](r *rand.Rand) N {
	return pick(r, 0, 1, 0x01020304, 1<<31, math.MaxUint32, N(r.Uint32()))
}

// list returns a list that is often empty, short, or as long as it may be.
func list[T any](r *rand.Rand, most int, one func() T) []T {
	var l []T
	for range pick(r, 0, 0, 1, 2, r.IntN(most+1), most) {
		l = append(l, one())
	}
	return l
}

// anyComm returns eight bytes.
func anyComm(r *rand.Rand) api.Comm {
	return api.Comm(binary.BigEndian.AppendUint64(nil, pick(r, 0, 0x0102030405060708, math.MaxUint64, r.Uint64())))
}

// validAttrs returns attributes that Check accepts.
func validAttrs(r *rand.Rand) api.Attrs {
	a := api.Attrs{
		Origin:   r.IntN(3),
		Path:     list(r, 32, func() uint32 { return word[uint32](r) }),
		Next:     word[api.IP](r),
		Clusters: list(r, 16, func() api.IP { return word[api.IP](r) }),
		Comms:    list(r, 64, func() api.Comm { return anyComm(r) }),
	}
	if a.HasMed = r.IntN(2) == 0; a.HasMed {
		a.Med = word[uint32](r)
	}
	if a.HasPref = r.IntN(2) == 0; a.HasPref {
		a.Pref = word[uint32](r)
	}
	if a.HasOriginator = r.IntN(2) == 0; a.HasOriginator {
		a.Originator = word[api.IP](r)
	}
	if a.Tunnel.Kind = pick(r, 0, 3, 6); a.Tunnel.Kind != 0 {
		a.Tunnel.Label, a.Tunnel.Root = pick[uint32](r, 0, 1, 0x010203, 0xffffff, r.Uint32N(1<<24)), word[api.IP](r)
		if a.Tunnel.Kind == 3 {
			a.Tunnel.Group = word[api.IP](r)
		}
	}
	return a
}

// mixedAttrs returns valid attributes, some fields of which were replaced by any values.
func mixedAttrs(r *rand.Rand) api.Attrs {
	a := validAttrs(r)
	changes := []func(){
		func() { a.Origin = pick(r, math.MinInt, -1, 0, 2, 3, 256, 1<<32, math.MaxInt) },
		func() { a.Path = make([]uint32, pick(r, 31, 32, 33, 300)) },
		func() { a.Clusters = make([]api.IP, pick(r, 15, 16, 17, 300)) },
		func() { a.Comms = make([]api.Comm, pick(r, 63, 64, 65, 300)) },
		func() { a.HasMed, a.Med = r.IntN(2) == 0, word[uint32](r) },
		func() { a.HasPref, a.Pref = r.IntN(2) == 0, word[uint32](r) },
		func() { a.HasOriginator, a.Originator = r.IntN(2) == 0, word[api.IP](r) },
		func() { a.Tunnel.Kind = pick(r, math.MinInt, -3, 0, 1, 2, 3, 4, 5, 6, 7, 256+3, 1<<32+6) },
		func() { a.Tunnel.Label = pick[uint32](r, 0, 1, 0xffffff, 0x1000000, math.MaxUint32) },
		func() { a.Tunnel.Root = word[api.IP](r) },
		func() { a.Tunnel.Group = word[api.IP](r) },
	}
	for range r.IntN(5) {
		pick(r, changes...)()
	}
	return a
}

// The routes of the tests: the flood route of layer 4, and routes of other kinds and sizes.
var (
	flood   = api.NLRI{Kind: 3, RD: 0x00010aff00010005, HasIP: true, IP: 0x0aff0001}
	segment = api.NLRI{Kind: 4, RD: 2, ESI: api.ESI{3, 9: 1}, HasIP: true, IP: 7}
	auto    = api.NLRI{Kind: 1, RD: 1, ESI: api.ESI{3}, Tag: 1<<32 - 1, Label: 1<<24 - 1}
	host    = api.NLRI{Kind: 2, MAC: 0x020000000007, HasIP: true, IP: 9, Label: 100, Label2: 7}
	subnet  = api.NLRI{Kind: 5, RD: 3, Prefix: api.Prefix{IP: 10 << 24, Len: 8}, Gateway: 4, Label: 5}
)

// badRoutes are routes that are not valid, with the error of each.
var badRoutes = []struct {
	n   api.NLRI
	err api.Errno
}{
	{api.NLRI{}, api.ErrType},
	{api.NLRI{Kind: 6}, api.ErrType},
	{api.NLRI{Kind: 3}, api.ErrForm},
	{api.NLRI{Kind: 5, Prefix: api.Prefix{IP: 1, Len: 8}}, api.ErrForm},
	{api.NLRI{Kind: 2, MAC: 1 << 48}, api.ErrRange},
	{api.NLRI{Kind: 1, Label: 1 << 24}, api.ErrRange},
}

// anyRoutes returns some valid routes.
func anyRoutes(r *rand.Rand) []api.NLRI {
	return list(r, 12, func() api.NLRI {
		n := pick(r, flood, segment, auto, host, subnet)
		n.RD = r.Uint64()
		return n
	})
}

// sized returns routes that are encoded in exactly so many bytes, at least 126.
func sized(total int) []api.NLRI {
	// With at most three of these routes, any rest of the division by the 19 bytes of the flood route can be had.
	some := [][]api.NLRI{nil, {segment}, {auto}, {host}, {subnet}, {{Kind: 2}}, {{Kind: 2, HasIP: true}}}
	for _, a := range some {
		for _, b := range some {
			for _, c := range some {
				routes := slices.Concat(a, b, c)
				if rest := total - len(encoded(routes)); rest >= 0 && rest%19 == 0 {
					return append(routes, slices.Repeat([]api.NLRI{flood}, rest/19)...)
				}
			}
		}
	}
	panic("no routes of this size")
}
