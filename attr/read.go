package attr

import (
	"leafmesh/api"
	"leafmesh/nlri"
	"leafmesh/wire"
)

// The sizes of the elements of lists.
const (
	numberSize = 4
	commSize   = 8
)

// piece is an attribute that is read: the offset of its first byte, and a reader of its value. If the bytes end within the attribute, the reader has this fault.
type piece struct {
	head
	at    int
	value *wire.Reader
}

// result is what was read so far, with the codes that there were, and the closures that fill it.
type result struct {
	api.Attrs
	reach, unreach []api.NLRI
	seen           map[byte]bool
	fillers        map[byte]func(*wire.Reader)
}

// Read decodes attributes and routes.
func Read(b []byte) (a api.Attrs, reach, unreach []api.NLRI, f api.Fault) {
	r := newResult()
	rules := r.rules()
	var fault api.Fault
attributes:
	for rest := wire.NewReader(b); rest.Left() > 0 && fault.Err == api.OK; {
		p := nextPiece(rest)
		for _, rule := range rules {
			if err := rule(p); err != api.OK {
				fault = api.Fault{Err: err, At: p.at}
				continue attributes
			}
		}
	}
	announces := r.seen[codeReach]
	if fault.Err == api.OK && announces && !(r.seen[codeOrigin] && r.seen[codePath]) {
		fault = api.Fault{Err: api.ErrAttr, At: len(b)}
	}
	switch {
	case fault.Err != api.OK:
		return api.Attrs{}, nil, nil, fault
	case !announces:
		// There is no route to which attributes could belong.
		return api.Attrs{}, nil, r.unreach, api.Fault{}
	}
	return r.Attrs, r.reach, r.unreach, api.Fault{}
}

// nextPiece reads the next attribute.
func nextPiece(r *wire.Reader) piece {
	p := piece{at: r.At()}
	p.flags = byte(r.U8())
	p.code = byte(r.U8())
	size := r.U8
	if p.has(extended) {
		size = r.U16
	}
	p.value = r.Sub(int(size()))
	return p
}

// newResult returns an empty result.
func newResult() *result {
	r := &result{seen: map[byte]bool{}}
	r.fillers = r.newFillers()
	return r
}

// rules returns what each attribute must satisfy, in the order in which the errors count.
func (r *result) rules() [4]func(piece) api.Errno {
	return [...]func(piece) api.Errno{whole, flagged, r.single, r.formed}
}

// whole is the rule that the bytes do not end within the attribute.
func whole(p piece) api.Errno { return p.value.Fault().Err }

// flagged is the rule that the flags are those of the kind; what is of no kind must be optional.
func flagged(p piece) api.Errno {
	right := p.has(optional)
	for _, k := range kinds() {
		if k.code == p.code {
			right = k.accepts(p.flags)
		}
	}
	if !right {
		return api.ErrAttr
	}
	return api.OK
}

// single is the rule that there is only one attribute of a kind.
func (r *result) single(p piece) api.Errno {
	if r.seen[p.code] {
		return api.ErrDouble
	}
	// What is of no kind is not remembered, so that it may come again.
	_, r.seen[p.code] = r.fillers[p.code]
	return api.OK
}

// formed is the rule that the value, to its end, has the form of its kind; it becomes a part of the result.
func (r *result) formed(p piece) api.Errno {
	filler, known := r.fillers[p.code]
	if !known {
		return api.OK
	}
	filler(p.value)
	if p.value.Fault().Err != api.OK || p.value.Left() > 0 {
		return api.ErrForm
	}
	return api.OK
}

// newFillers returns, for each code, a closure that reads a value into the result. If the form is wrong, the reader has a fault afterwards, or bytes are left.
func (r *result) newFillers() map[byte]func(*wire.Reader) {
	return map[byte]func(*wire.Reader){
		codeOrigin: func(v *wire.Reader) {
			r.Origin = int(v.U8())
			demand(v, r.Origin <= maxOrigin)
		},
		codePath: func(v *wire.Reader) { r.Path = readPath(v) },
		codeMed: func(v *wire.Reader) {
			r.HasMed, r.Med = true, uint32(v.U32())
		},
		codePref: func(v *wire.Reader) {
			r.HasPref, r.Pref = true, uint32(v.U32())
		},
		codeOriginator: func(v *wire.Reader) {
			r.HasOriginator, r.Originator = true, api.IP(v.U32())
		},
		codeClusters: func(v *wire.Reader) {
			r.Clusters = readList(v, numberSize, api.MaxClusters, func() api.IP { return api.IP(v.U32()) })
		},
		codeReach: func(v *wire.Reader) {
			expect(v, nextFamily)
			r.Next = api.IP(v.U32())
			expect(v, reserved)
			r.reach = readRoutes(v)
			demand(v, len(r.reach) > 0)
		},
		codeUnreach: func(v *wire.Reader) {
			expect(v, family)
			r.unreach = readRoutes(v)
		},
		codeComms: func(v *wire.Reader) {
			r.Comms = readList(v, commSize, api.MaxComms, func() api.Comm { return api.Comm(v.Bytes(commSize)) })
		},
		codeTunnel: func(v *wire.Reader) { r.Tunnel = readTunnel(v) },
	}
}

// demand gives the reader a fault unless something is so.
func demand(v *wire.Reader, so bool) {
	if !so {
		v.Fail(api.ErrForm)
	}
}

// expect reads bytes that must be the given ones.
func expect(v *wire.Reader, want string) {
	demand(v, string(v.Bytes(len(want))) == want)
}

// readPath reads a path, which may be missing, but not be empty.
func readPath(v *wire.Reader) []uint32 {
	if v.Left() == 0 {
		return nil
	}
	expect(v, pathType)
	count := int(v.U8())
	demand(v, v.Left() == count*numberSize)
	return readList(v, numberSize, api.MaxPath, func() uint32 { return uint32(v.U32()) })
}

// readList reads elements of one size, at least one, up to the end of the value. The function that reads one is called only if there is one.
func readList[T any](v *wire.Reader, size, most int, read func() T) []T {
	count := v.Left() / size
	demand(v, count > 0 && count <= most && v.Left()%size == 0)
	var list []T
	for v.Fault().Err == api.OK && v.Left() > 0 {
		list = append(list, read())
	}
	return list
}

// readRoutes reads routes up to the end of the value.
func readRoutes(v *wire.Reader) []api.NLRI {
	routes, f := nlri.Read(v.Bytes(v.Left()))
	demand(v, f.Err == api.OK)
	return routes
}

// readTunnel reads a tunnel; only that of a tree has a group.
func readTunnel(v *wire.Reader) api.Tunnel {
	expect(v, tunnelFlags)
	t := api.Tunnel{Kind: int(v.U8())}
	t.Label = uint32(v.U24())
	t.Root = api.IP(v.U32())
	if t.Kind == api.TunnelTree {
		t.Group = api.IP(v.U32())
	}
	demand(v, t.Kind == api.TunnelTree || t.Kind == api.TunnelIngress)
	return t
}
