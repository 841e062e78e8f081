package attr

import (
	"cmp"

	"leafmesh/api"
	"leafmesh/nlri"
	"leafmesh/wire"
)

// maxSize is the greatest number of bytes of all attributes, maxShort that of a value whose length takes one byte.
const (
	maxSize  = 1<<16 - 1
	maxShort = 1<<8 - 1
)

// source is what attributes are written from. The routes are encoded already.
type source struct {
	api.Attrs
	reach, unreach []byte
}

// Bytes encodes attributes and routes.
func Bytes(a api.Attrs, reach, unreach []api.NLRI) ([]byte, api.Errno) {
	if err := Check(a); err != api.OK {
		return nil, err
	}
	if len(reach) == 0 && !Zero(a) {
		return nil, api.ErrForm
	}
	announced, err := encode(reach)
	if err != api.OK {
		return nil, err
	}
	withdrawn, err := encode(unreach)
	if err != api.OK {
		return nil, err
	}
	s := source{Attrs: a, reach: announced, unreach: withdrawn}
	out, _ := wire.NewWriter(maxSize)
	for _, k := range kinds() {
		// All numbers fit in their bytes, so that only room can be missing.
		if err := k.put(out, s); err != api.OK {
			return nil, api.ErrLong
		}
	}
	return out.Out(), api.OK
}

// encode returns encoded routes, or why the first one that is not valid is not.
func encode(routes []api.NLRI) ([]byte, api.Errno) {
	var out []byte
	for _, n := range routes {
		b, err := nlri.Bytes(n)
		if err != api.OK {
			return nil, err
		}
		out = append(out, b...)
	}
	return out, api.OK
}

// put appends the attribute of a kind, if there is one.
func (k kind) put(out *wire.Writer, s source) api.Errno {
	value, _ := wire.NewWriter(maxSize)
	present, err := k.write(s, value)
	if !present || err != api.OK {
		return err
	}
	flags, size := k.flags, out.U8
	if value.Len() > maxShort {
		flags, size = flags|extended, out.U16
	}
	return cmp.Or(out.U8(uint64(flags)), out.U8(uint64(k.code)), size(uint64(value.Len())), out.Bytes(value.Out()))
}

// announces reports whether there are announced routes.
func (s source) announces() bool { return len(s.reach) > 0 }

func (s source) origin(w *wire.Writer) (bool, api.Errno) {
	return s.announces(), w.U8(uint64(s.Origin))
}

func (s source) path(w *wire.Writer) (bool, api.Errno) {
	if len(s.Path) == 0 {
		return s.announces(), api.OK
	}
	return s.announces(), cmp.Or(w.Bytes([]byte(pathType)), w.U8(uint64(len(s.Path))), writeList(s.Path, w.U32))
}

func (s source) med(w *wire.Writer) (bool, api.Errno) { return s.HasMed, w.U32(uint64(s.Med)) }

func (s source) pref(w *wire.Writer) (bool, api.Errno) { return s.HasPref, w.U32(uint64(s.Pref)) }

func (s source) originator(w *wire.Writer) (bool, api.Errno) {
	return s.HasOriginator, w.U32(uint64(s.Originator))
}

func (s source) clusters(w *wire.Writer) (bool, api.Errno) {
	return len(s.Clusters) > 0, writeList(s.Clusters, w.U32)
}

func (s source) announced(w *wire.Writer) (bool, api.Errno) {
	return s.announces(), cmp.Or(w.Bytes([]byte(nextFamily)), w.U32(uint64(s.Next)), w.Bytes([]byte(reserved)), w.Bytes(s.reach))
}

func (s source) withdrawn(w *wire.Writer) (bool, api.Errno) {
	// Without any routes this attribute stands for all of them, as in an End of RIB.
	return len(s.unreach) > 0 || !s.announces(), cmp.Or(w.Bytes([]byte(family)), w.Bytes(s.unreach))
}

func (s source) comms(w *wire.Writer) (bool, api.Errno) {
	var err api.Errno
	for _, c := range s.Comms {
		err = cmp.Or(err, w.Bytes(c[:]))
	}
	return len(s.Comms) > 0, err
}

func (s source) tunnel(w *wire.Writer) (bool, api.Errno) {
	t := s.Tunnel
	err := cmp.Or(w.Bytes([]byte(tunnelFlags)), w.U8(uint64(t.Kind)), w.U24(uint64(t.Label)), w.U32(uint64(t.Root)))
	if t.Kind == api.TunnelTree {
		err = cmp.Or(err, w.U32(uint64(t.Group)))
	}
	return t.Kind != api.TunnelNone, err
}

// writeList writes numbers one by one.
func writeList[N ~uint32](list []N, write func(uint64) api.Errno) api.Errno {
	var err api.Errno
	for _, n := range list {
		err = cmp.Or(err, write(uint64(n)))
	}
	return err
}
