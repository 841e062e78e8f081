package msg

import (
	"bytes"
	"iter"

	"leafmesh/api"
	"leafmesh/attr"
	"leafmesh/wire"
)

// stream is bytes of messages, and the offset of the first message that was not read.
type stream struct {
	bytes []byte
	at    int
}

// Split reads the messages of a stream.
func Split(b []byte) (l []api.Msg, rest []byte, f api.Fault) {
	s := stream{bytes: b}
	for m, fault := range s.messages() {
		if fault.Err != api.OK {
			return l, nil, fault
		}
		l = append(l, m)
	}
	return l, bytes.Clone(b[s.at:]), api.Fault{}
}

// messages visits the complete messages, each with a zero fault, and then the fault, if there is one.
func (s *stream) messages() iter.Seq2[api.Msg, api.Fault] {
	return func(yield func(api.Msg, api.Fault) bool) {
		for {
			piece, err := first(s.bytes[s.at:])
			if len(piece) == 0 && err == api.OK {
				return
			}
			var m api.Msg
			if err == api.OK {
				m, err = decode(piece)
			}
			if err != api.OK {
				yield(api.Msg{}, api.Fault{Err: err, At: s.at})
				return
			}
			s.at += len(piece)
			if !yield(m, api.Fault{}) {
				return
			}
		}
	}
}

// first returns the message with which b begins, no bytes if it is incomplete, or what is wrong with it before its body.
func first(b []byte) ([]byte, api.Errno) {
	if len(b) < headSize {
		return nil, api.OK
	}
	r := wire.NewReader(b[:headSize])
	begin := string(r.Bytes(len(mark)))
	size := int(r.U16())
	kind := int(r.U8())
	switch {
	case begin != mark:
		return nil, api.ErrMark
	case size < headSize || size > api.MaxMessage:
		return nil, api.ErrLong
	case !isKind(kind):
		return nil, api.ErrType
	case size > len(b):
		return nil, api.OK
	}
	return b[:size], api.OK
}

// decode returns the message that a piece encodes, or what is wrong with its body.
func decode(piece []byte) (api.Msg, api.Errno) {
	kind, body := int(piece[headSize-1]), piece[headSize:]
	var formed bool
	switch kind {
	case api.MsgOpen:
		return readOpen(body)
	case api.MsgUpdate:
		return readUpdate(body)
	case api.MsgNotice:
		return readNotice(body)
	case api.MsgAlive:
		formed = len(body) == 0
	case api.MsgRefresh:
		formed = isRefresh(body)
	}
	if !formed {
		return api.Msg{}, api.ErrForm
	}
	return api.Msg{Kind: kind}, api.OK
}

// readUpdate reads the body of an update.
func readUpdate(body []byte) (api.Msg, api.Errno) {
	r := wire.NewReader(body)
	other := r.U16()
	size := int(r.U16())
	if r.Fault().Err != api.OK || other != 0 || size != r.Left() {
		return api.Msg{}, api.ErrForm
	}
	a, reach, unreach, fault := attr.Read(r.Bytes(size))
	if fault.Err != api.OK {
		return api.Msg{}, fault.Err
	}
	return api.Msg{Kind: api.MsgUpdate, A: a, Reach: reach, Unreach: unreach}, api.OK
}

// readNotice reads the body of a notice; behind the two numbers there may be anything.
func readNotice(body []byte) (api.Msg, api.Errno) {
	r := wire.NewReader(body)
	m := api.Msg{Kind: api.MsgNotice, Code: int(r.U8())}
	m.Sub = int(r.U8())
	if r.Fault().Err != api.OK {
		return api.Msg{}, api.ErrForm
	}
	return m, api.OK
}

// isRefresh reports whether the body of a refresh names EVPN, with any reserved byte.
func isRefresh(body []byte) bool {
	return len(body) == len(family) && string(body[:2]) == family[:2] && body[3] == family[3]
}
