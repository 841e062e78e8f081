package msg_test

import (
	"bytes"
	"math/rand/v2"
	"slices"
	"strings"
	"testing"

	"leafmesh/api"
	"leafmesh/msg"
)

// checkSplit fails the test unless Split of b returns what the model says, and the same again, in new memory and without changing b. It returns the fault.
func checkSplit(t *testing.T, b []byte) api.Fault {
	t.Helper()
	before := bytes.Clone(b)
	want, wantRest, wantFault := modelSplit(before)
	for range 2 {
		given := bytes.Clone(before)
		l, rest, f := msg.Split(given)
		if !bytes.Equal(given, before) {
			t.Errorf("Split changed % .300x to % .300x", before, given)
		}
		// What is returned does not change with the argument, or with another part of it.
		clear(given[:cap(given)])
		if f != wantFault || !slices.EqualFunc(l, want, equal) || !bytes.Equal(rest, wantRest) {
			t.Errorf("Split(% .300x) =\n%+v % x %v, want\n%+v % x %v", before, l, rest, f, want, wantRest, wantFault)
		}
		clear(rest[:cap(rest)])
		for i, m := range l {
			if i < len(want) && !equal(m, want[i]) {
				t.Errorf("Split(% .300x): message %d shares memory", before, i)
			}
			clear(m.Reach[:cap(m.Reach)])
			clear(m.Unreach[:cap(m.Unreach)])
			clear(m.A.Path[:cap(m.A.Path)])
			clear(m.A.Clusters[:cap(m.A.Clusters)])
			clear(m.A.Comms[:cap(m.A.Comms)])
		}
	}
	return wantFault
}

// checkFault fails the test unless Split of b has a fault at a position, as the model says too, after so many messages.
func checkFault(t *testing.T, b string, want api.Errno, at, count int) {
	t.Helper()
	if f := checkSplit(t, []byte(b)); f != (api.Fault{Err: want, At: at}) {
		t.Errorf("the model of % .300x: %v, want %d at %d", b, f, want, at)
	}
	l, rest, f := msg.Split([]byte(b))
	if f != (api.Fault{Err: want, At: at}) || len(l) != count || len(rest) != 0 {
		t.Errorf("Split(% .300x): %d messages, rest % x, %v, want %d messages, %d at %d", b, len(l), rest, f, count, want, at)
	}
}

// checkBody fails the test unless a message with a body gives an error, both alone and behind another message, but not while it is incomplete.
func checkBody(t *testing.T, kind int, body string, want api.Errno) {
	t.Helper()
	b, other := message(kind, body), message(4, "")
	if want == api.OK {
		checkMsgs(t, b+other, 2, "")
		return
	}
	checkFault(t, b, want, 0, 0)
	checkFault(t, other+b+other, want, len(other), 1)
	if len(body) > 0 {
		cut := b[:len(b)-1]
		checkMsgs(t, other+cut, 1, cut)
	}
}

// checkMsgs fails the test unless Split of b returns so many messages and a rest.
func checkMsgs(t *testing.T, b string, count int, rest string) []api.Msg {
	t.Helper()
	if f := checkSplit(t, []byte(b)); f != (api.Fault{}) {
		t.Errorf("the model of % .300x: %v", b, f)
	}
	l, left, f := msg.Split([]byte(b))
	if f != (api.Fault{}) || len(l) != count || string(left) != rest {
		t.Errorf("Split(% .300x): %d messages, rest % x, %v, want %d messages, rest % x", b, len(l), left, f, count, rest)
	}
	return l
}

// P6.2: complete messages are read, and the bytes of an incomplete one are the rest, wherever it ends.
func TestSplit(t *testing.T) {
	checkMsgs(t, "", 0, "")
	if l, rest, f := msg.Split(nil); len(l) != 0 || len(rest) != 0 || f != (api.Fault{}) {
		t.Errorf("Split(nil) = %v % x %v", l, rest, f)
	}
	before := ""
	for i, s := range samples {
		b := marker + s.bytes
		if l := checkMsgs(t, b, 1, ""); len(l) == 1 && !equal(l[0], s.m) {
			t.Errorf("Split(% x) = %+v, want %+v", b, l[0], s.m)
		}
		for n := range len(b) {
			checkMsgs(t, b[:n], 0, b[:n])
			checkMsgs(t, before+b[:n], i, b[:n])
		}
		before += b
	}
	for i, m := range checkMsgs(t, before, len(samples), "") {
		if !equal(m, samples[i].m) {
			t.Errorf("message %d is %+v, want %+v", i, m, samples[i].m)
		}
	}
}

// P6.2: with fewer than 19 bytes a message is incomplete, whatever they are.
func TestSplitFew(t *testing.T) {
	good := message(4, "")
	for n := range 19 {
		for _, x := range []string{"\x00", "\xff", "\x05"} {
			few := strings.Repeat(x, n)
			checkMsgs(t, few, 0, few)
			checkMsgs(t, good+few, 1, few)
			checkMsgs(t, good+good+few, 2, few)
		}
	}
}

// P6.2: each of the first 16 bytes must be 0xff, whatever else is wrong, as soon as 19 bytes are there.
func TestSplitMark(t *testing.T) {
	good := message(5, "\x00\x19\x00\x46")
	for at := range 16 {
		for _, x := range []byte{0x00, 0xfe, 0x7f} {
			for _, s := range []string{good, headed(18, 4), headed(19, 6), headed(4096, 1), headed(4097, 0), headed(20, 4) + "\x00"} {
				b := []byte(s)
				b[at] = x
				checkFault(t, string(b), api.ErrMark, 0, 0)
				checkFault(t, string(b[:19]), api.ErrMark, 0, 0)
				checkFault(t, good+string(b)+good, api.ErrMark, len(good), 1)
				checkMsgs(t, good+string(b[:18]), 1, string(b[:18]))
			}
		}
	}
}

// P6.2: a size is from 19 to 4,096, whatever the kind is, as soon as 19 bytes are there.
func TestSplitSize(t *testing.T) {
	good := message(4, "")
	for _, size := range []int{0, 1, 17, 18, 4097, 4098, 8192, 32768 + 19, 65535} {
		for _, kind := range []int{0, 1, 2, 4, 6, 255} {
			for _, more := range []string{"", "\x00", strings.Repeat("\x00", 5000)} {
				checkFault(t, headed(size, kind)+more, api.ErrLong, 0, 0)
				checkFault(t, good+good+headed(size, kind)+more, api.ErrLong, 2*len(good), 2)
			}
		}
	}
	// Other sizes are valid: the message is incomplete, or its body is wrong.
	for _, size := range []int{20, 21, 255, 256, 4095, 4096} {
		b := message(4, strings.Repeat("\x00", size-19))
		checkMsgs(t, good+b[:size-1], 1, b[:size-1])
		checkMsgs(t, b[:19], 0, b[:19])
		checkFault(t, good+b, api.ErrForm, len(good), 1)
	}
	notice := message(3, "\x01\x02"+strings.Repeat("\x03", 4096-21))
	if l := checkMsgs(t, notice+good, 2, ""); len(l) == 2 && !equal(l[0], api.Msg{Kind: 3, Code: 1, Sub: 2}) {
		t.Errorf("a notice of %d bytes is %+v", len(notice), l[0])
	}
}

// P6.2: a kind is one of the five, as soon as 19 bytes are there.
func TestSplitKind(t *testing.T) {
	good := message(4, "")
	for kind := range 256 {
		for _, size := range []int{19, 23, 4096} {
			b := headed(size, kind)
			if kind < 1 || kind > 5 {
				checkFault(t, b, api.ErrType, 0, 0)
				checkFault(t, good+b+strings.Repeat("\x00", size-19)+good, api.ErrType, len(good), 1)
			} else if size > 19 {
				checkMsgs(t, good+b, 1, b)
			}
		}
	}
}

// P6.2: the messages before a fault are returned, without a rest; of several faults it is the first one.
func TestSplitFault(t *testing.T) {
	good, bad, worse := message(3, "\x06\x04"), message(4, "\x00"), headed(19, 6)
	for count := range 5 {
		before := strings.Repeat(good, count)
		checkFault(t, before+bad, api.ErrForm, len(before), count)
		checkFault(t, before+bad+worse, api.ErrForm, len(before), count)
		checkFault(t, before+worse+bad, api.ErrType, len(before), count)
		checkFault(t, before+bad+good+good[:7], api.ErrForm, len(before), count)
	}
}

// P6.3: an update has two zero bytes, and the size of the attributes, which must be the rest.
func TestUpdate(t *testing.T) {
	end := "\x80\x0f\x03\x00\x19\x46"
	for n := range 4 {
		checkBody(t, 2, strings.Repeat("\x00", n), api.ErrForm)
		checkBody(t, 2, strings.Repeat("\xff", n), api.ErrForm)
	}
	for _, x := range []struct {
		body string
		err  api.Errno
	}{
		{"\x00\x00\x00\x06" + end, api.OK},
		{"\x00\x00\x00\x00", api.OK},
		{"\x00\x01\x00\x06" + end, api.ErrForm},
		{"\x01\x00\x00\x06" + end, api.ErrForm},
		{"\x00\x06" + end + "\x00\x00", api.ErrForm},
		{"\x00\x00\x00\x05" + end, api.ErrForm},
		{"\x00\x00\x00\x07" + end, api.ErrForm},
		{"\x00\x00\x01\x06" + end, api.ErrForm},
		{"\x00\x00\x06\x00" + end, api.ErrForm},
		{"\x00\x00\x00\x00" + end, api.ErrForm},
		{"\x00\x00\x00\x01", api.ErrForm},
		// The error of attr.Read is that of the message; its position is that of the message too.
		{"\x00\x00\x00\x05" + end[:5], api.ErrShort},
		{"\x00\x00\x00\x09" + end + "\x40\x63\x00", api.ErrAttr},
		{"\x00\x00\x00\x0c" + end + end, api.ErrDouble},
		{"\x00\x00\x00\x0a" + end + "\x40\x01\x01\x03", api.ErrForm},
		{"\x00\x00\x00\x0a" + end + "\x40\x01\x01\x02", api.OK},
	} {
		checkBody(t, 2, x.body, x.err)
	}
}

// P6.3: what attr.Read accepts is read, in any order, with attributes that are skipped, and without what does not belong to a route.
func TestUpdateRead(t *testing.T) {
	reach := "\x80\x0e\x1c\x00\x19\x46\x04\x00\x00\x00\x09\x00\x03\x11\x00\x01\x0a\xff\x00\x01\x00\x05\x00\x00\x00\x00\x20\x0a\xff\x00\x01"
	for _, x := range []struct {
		attributes string
		want       api.Msg
	}{
		{reach + "\xc0\x63\x01\x07\x40\x02\x00\x50\x01\x00\x01\x02", api.Msg{Kind: 2, A: api.Attrs{Origin: 2, Next: 9}, Reach: []api.NLRI{flood}}},
		{"\x40\x05\x04\x00\x00\x00\x07", api.Msg{Kind: 2}},
		{"", api.Msg{Kind: 2}},
		{"\x80\x0f\x03\x00\x19\x46", api.Msg{Kind: 2}},
	} {
		body := "\x00\x00\x00" + string([]byte{byte(len(x.attributes))}) + x.attributes
		l := checkMsgs(t, message(2, body), 1, "")
		if len(l) == 1 && !equal(l[0], x.want) {
			t.Errorf("% x is read as %+v, want %+v", x.attributes, l[0], x.want)
		}
		if len(l) == 1 && msg.End(l[0]) != (len(x.want.Reach) == 0) {
			t.Errorf("End of % x", x.attributes)
		}
	}
}

// P6.3: a notice has at least two bytes, MsgAlive none, and MsgRefresh exactly four, three of which are given.
func TestSmallBodies(t *testing.T) {
	checkBody(t, 3, "", api.ErrForm)
	checkBody(t, 3, "\x06", api.ErrForm)
	for n := range 40 {
		more := strings.Repeat("\x07", n)
		checkBody(t, 3, "\x06\x04"+more, api.OK)
		if l := checkMsgs(t, message(3, "\xff\x80"+more), 1, ""); len(l) == 1 && !equal(l[0], api.Msg{Kind: 3, Code: 255, Sub: 128}) {
			t.Errorf("a notice with %d more bytes is %+v", n, l[0])
		}
		if n > 0 {
			checkBody(t, 4, more, api.ErrForm)
		}
	}
	checkBody(t, 4, "", api.OK)
	refresh := "\x00\x19\x00\x46"
	for n := range 4 {
		checkBody(t, 5, refresh[:n], api.ErrForm)
	}
	checkBody(t, 5, refresh+"\x00", api.ErrForm)
	checkBody(t, 5, refresh+refresh, api.ErrForm)
	for at := range 4 {
		for x := range 256 {
			b := []byte(refresh)
			b[at] = byte(x)
			want := api.ErrForm
			if at == 2 || byte(x) == refresh[at] {
				want = api.OK
			}
			checkBody(t, 5, string(b), want)
		}
	}
	if l := checkMsgs(t, message(5, "\x00\x19\x63\x46"), 1, ""); len(l) == 1 && !equal(l[0], api.Msg{Kind: 5}) {
		t.Errorf("MsgRefresh with a byte is %+v", l[0])
	}
}

// spoil changes a byte of b, removes some or adds some.
func spoil(r *rand.Rand, b []byte) []byte {
	if len(b) == 0 {
		return b
	}
	at := r.IntN(len(b))
	switch r.IntN(6) {
	case 0:
		return slices.Delete(b, at, min(len(b), at+1+r.IntN(3)))
	case 1:
		return slices.Insert(b, at, byte(r.Uint32()))
	case 2:
		b[at] ^= 1 << r.IntN(8)
	case 3:
		b[at] = byte(r.Uint32())
	case 4:
		b[at]++
	case 5:
		b[at]--
	}
	return b
}

// P6.2, P6.3: Split says what the model says of messages that were spoiled, and of any bytes.
func TestSplitModel(t *testing.T) {
	r := rand.New(rand.NewPCG(6, 3))
	counts := map[api.Errno]int{}
	for range 20000 {
		var b []byte
		for range r.IntN(4) {
			one, _ := msg.Bytes(validMsg(r))
			switch r.IntN(4) {
			case 0:
				one = spoil(r, one)
			case 1:
				// The body alone is spoiled, so that it is what is looked at.
				one = []byte(message(int(one[18]), string(spoil(r, one[19:]))))
			case 2:
				one = []byte(message(1+r.IntN(5), string(anyBytes(r, 40))))
			}
			b = append(b, one...)
		}
		counts[checkSplit(t, append(b, anyBytes(r, 25)...)).Err]++
	}
	for _, e := range []api.Errno{api.OK, api.ErrForm, api.ErrShort, api.ErrLong, api.ErrType, api.ErrVersion, api.ErrMark, api.ErrAttr} {
		if counts[e] < 10 {
			t.Errorf("only %d streams with the error %d", counts[e], e)
		}
	}
}

// anyBytes returns fewer bytes than most, many of which are equal.
func anyBytes(r *rand.Rand, most int) []byte {
	b := make([]byte, r.IntN(most))
	for i := range b {
		b[i] = pick(r, 0, 1, 2, 4, 0xff, 0xff, byte(r.Uint32()))
	}
	return b
}
