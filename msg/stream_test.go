package msg_test

import (
	"bytes"
	"math/rand/v2"
	"slices"
	"testing"

	"leafmesh/api"
	"leafmesh/msg"
)

// stream returns encoded messages one after the other.
func stream(t *testing.T, l []api.Msg) []byte {
	t.Helper()
	var b []byte
	for _, m := range l {
		one, err := msg.Bytes(m)
		if err != api.OK {
			t.Errorf("Bytes(%+v): %d", m, err)
		}
		b = append(b, one...)
	}
	return b
}

// anyMsgs returns some valid messages.
func anyMsgs(r *rand.Rand) []api.Msg {
	var l []api.Msg
	for range r.IntN(8) {
		l = append(l, validMsg(r))
	}
	return l
}

// P6.4: Split returns the messages that Bytes encoded, in order.
func TestInverse(t *testing.T) {
	r := rand.New(rand.NewPCG(6, 5))
	var all []api.Msg
	for range 3000 {
		l := anyMsgs(r)
		back, rest, f := msg.Split(stream(t, l))
		if f != (api.Fault{}) || len(rest) != 0 || !slices.EqualFunc(back, l, equal) {
			t.Errorf("%+v is read as %+v % x %v", l, back, rest, f)
		}
		if len(all) < 5000 {
			all = append(all, l...)
		}
	}
	if back, rest, f := msg.Split(stream(t, all)); f != (api.Fault{}) || len(rest) != 0 || !slices.EqualFunc(back, all, equal) {
		t.Errorf("%d messages are read as %d, rest % x, %v", len(all), len(back), rest, f)
	}
}

// P6.4: what attributes contain, and messages of the greatest size, are read back too.
func TestInverseUpdates(t *testing.T) {
	rich := api.Attrs{
		Origin: 2, Path: []uint32{1, 70000}, Next: 9, HasMed: true, Med: 5, HasPref: true, Pref: 100, HasOriginator: true, Originator: 7,
		Clusters: []api.IP{3, 4}, Comms: []api.Comm{{0, 2, 1}}, Tunnel: api.Tunnel{Kind: api.TunnelTree, Label: 258, Root: 1, Group: 2},
	}
	l := []api.Msg{
		{Kind: 2, A: rich, Reach: []api.NLRI{flood, segment}, Unreach: []api.NLRI{segment}},
		{Kind: 2, Unreach: sized(4096 - 30)},
		{Kind: 2, Reach: sized(4096 - 43)},
		{Kind: 2},
		{Kind: 2, A: rich, Reach: sized(3000), Unreach: sized(900)},
	}
	b := stream(t, l)
	back, rest, f := msg.Split(b)
	if f != (api.Fault{}) || len(rest) != 0 || !slices.EqualFunc(back, l, equal) {
		t.Errorf("%+v is read as %+v % x %v", l, back, rest, f)
	}
	if !bytes.Equal(stream(t, back), b) {
		t.Error("the messages are written differently after they were read")
	}
}

// P3: what Split returns, Bytes accepts, and Split then returns it again.
func TestAccepted(t *testing.T) {
	r := rand.New(rand.NewPCG(6, 6))
	for range 5000 {
		b := stream(t, anyMsgs(r))
		for range r.IntN(3) {
			b = spoil(r, b)
		}
		l, _, _ := msg.Split(b)
		back, rest, f := msg.Split(stream(t, l))
		if f != (api.Fault{}) || len(rest) != 0 || !slices.EqualFunc(back, l, equal) {
			t.Errorf("%+v is read as %+v % x %v", l, back, rest, f)
		}
	}
}

// checkPieces fails the test unless a stream gives the same messages, the same rest and the same fault piece by piece as at once. The pieces end at ascending offsets, and at the end.
func checkPieces(t *testing.T, b []byte, ends []int) {
	t.Helper()
	want, wantRest, wantFault := msg.Split(b)
	var l []api.Msg
	var rest []byte
	var fault api.Fault
	from := 0
	for _, to := range append(ends, len(b)) {
		given := append(rest, b[from:to]...)
		start := to - len(given)
		var some []api.Msg
		some, rest, fault = msg.Split(given)
		l = append(l, some...)
		if fault.Err != api.OK {
			fault.At += start
			break
		}
		from = to
	}
	if !slices.EqualFunc(l, want, equal) || !bytes.Equal(rest, wantRest) || fault != wantFault {
		t.Errorf("% .300x, in pieces up to %v, is\n%+v % x %v, want\n%+v % x %v", b, ends, l, rest, fault, want, wantRest, wantFault)
	}
}

// P6.5: a stream can be split at any place, or into single bytes.
func TestPieces(t *testing.T) {
	var b []byte
	for _, s := range samples {
		b = append(b, marker+s.bytes...)
	}
	bad := [][]byte{nil, b[:5], []byte(headed(18, 4)), []byte(headed(19, 6)), []byte(message(4, "\x00")), []byte(message(2, "\x00\x00\x00\x05\x80\x0f\x03\x00\x19"))}
	for _, end := range bad {
		whole := slices.Concat(b, end, b[:30])
		for at := range len(whole) {
			checkPieces(t, whole, []int{at})
		}
		var each []int
		for at := range whole {
			each = append(each, at)
		}
		checkPieces(t, whole, each)
	}
}

// P6.5: streams, with faults and without, can be split into any pieces, also empty ones.
func TestPiecesRandom(t *testing.T) {
	r := rand.New(rand.NewPCG(6, 7))
	faults := 0
	for range 5000 {
		b := stream(t, anyMsgs(r))
		if r.IntN(2) == 0 {
			b = spoil(r, b)
		}
		var ends []int
		for range r.IntN(12) {
			ends = append(ends, r.IntN(len(b)+1))
		}
		slices.Sort(ends)
		checkPieces(t, b, ends)
		if _, _, f := msg.Split(b); f.Err != api.OK {
			faults++
		}
	}
	if faults < 500 {
		t.Errorf("only %d streams with faults", faults)
	}
}

// P1: Split terminates without a panic on any bytes behind any heads.
func TestAnyBytes(t *testing.T) {
	r := rand.New(rand.NewPCG(6, 8))
	for range 20000 {
		var b []byte
		for range r.IntN(3) {
			size := pick(r, 19, 20, 23, 29, 60, r.IntN(70))
			b = append(b, headed(size, r.IntN(7))...)
			b = append(b, anyBytes(r, 60)...)
		}
		checkSplit(t, b)
	}
}
