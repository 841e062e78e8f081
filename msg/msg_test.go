package msg_test

import (
	"bytes"
	"math"
	"math/rand/v2"
	"slices"
	"testing"

	"leafmesh/api"
	"leafmesh/attr"
	"leafmesh/msg"
)

// samples are valid messages, and what comes after the marker.
var samples = []struct {
	m     api.Msg
	bytes string
}{
	// The examples of the chapter.
	{api.Msg{Kind: 4}, "\x00\x13\x04"},
	{api.Msg{Kind: 2}, "\x00\x1d\x02\x00\x00\x00\x06\x80\x0f\x03\x00\x19\x46"},
	{
		api.Msg{Kind: 1, Open: api.Open{AS: 65000, Hold: 90, ID: 0x0aff0001}},
		"\x00\x2d\x01\x04\xfd\xe8\x00\x5a\x0a\xff\x00\x01\x10\x02\x0e\x01\x04\x00\x19\x00\x46\x02\x00\x41\x04\x00\x00\xfd\xe8",
	},
	{api.Msg{Kind: 3, Code: 6, Sub: 4}, "\x00\x15\x03\x06\x04"},
	{api.Msg{Kind: 5}, "\x00\x17\x05\x00\x19\x00\x46"},
	// OPEN messages with and without graceful restart, and with short and long AS numbers.
	{
		api.Msg{Kind: 1},
		"\x00\x2d\x01\x04\x00\x00\x00\x00\x00\x00\x00\x00\x10\x02\x0e\x01\x04\x00\x19\x00\x46\x02\x00\x41\x04\x00\x00\x00\x00",
	},
	{
		api.Msg{Kind: 1, Open: api.Open{AS: 0x01020304, Hold: 0x0506, ID: 0x0708090a, Restart: 0xbcd, Restarted: true}},
		"\x00\x35\x01\x04\x5b\xa0\x05\x06\x07\x08\x09\x0a\x18\x02\x16\x01\x04\x00\x19\x00\x46\x02\x00\x40\x06\x8b\xcd\x00\x19\x46\x80\x41\x04\x01\x02\x03\x04",
	},
	{
		api.Msg{Kind: 1, Open: api.Open{AS: 65535, Hold: 65535, Restart: 4095}},
		"\x00\x35\x01\x04\xff\xff\xff\xff\x00\x00\x00\x00\x18\x02\x16\x01\x04\x00\x19\x00\x46\x02\x00\x40\x06\x0f\xff\x00\x19\x46\x80\x41\x04\x00\x00\xff\xff",
	},
	{
		api.Msg{Kind: 1, Open: api.Open{AS: 65536, Hold: 3, Restarted: true}},
		"\x00\x35\x01\x04\x5b\xa0\x00\x03\x00\x00\x00\x00\x18\x02\x16\x01\x04\x00\x19\x00\x46\x02\x00\x40\x06\x80\x00\x00\x19\x46\x80\x41\x04\x00\x01\x00\x00",
	},
	{
		api.Msg{Kind: 1, Open: api.Open{AS: math.MaxUint32, Hold: 256, Restart: 1}},
		"\x00\x35\x01\x04\x5b\xa0\x01\x00\x00\x00\x00\x00\x18\x02\x16\x01\x04\x00\x19\x00\x46\x02\x00\x40\x06\x00\x01\x00\x19\x46\x80\x41\x04\xff\xff\xff\xff",
	},
	// Updates that announce, that withdraw, and that do both.
	{
		api.Msg{Kind: 2, A: api.Attrs{Next: 0x0aff0001}, Reach: []api.NLRI{flood}},
		"\x00\x3d\x02\x00\x00\x00\x26\x40\x01\x01\x00\x40\x02\x00\x80\x0e\x1c\x00\x19\x46\x04\x0a\xff\x00\x01\x00\x03\x11\x00\x01\x0a\xff\x00\x01\x00\x05\x00\x00\x00\x00\x20\x0a\xff\x00\x01",
	},
	{
		api.Msg{Kind: 2, Unreach: []api.NLRI{flood}},
		"\x00\x30\x02\x00\x00\x00\x19\x80\x0f\x16\x00\x19\x46\x03\x11\x00\x01\x0a\xff\x00\x01\x00\x05\x00\x00\x00\x00\x20\x0a\xff\x00\x01",
	},
	{
		api.Msg{Kind: 2, Reach: []api.NLRI{flood}, Unreach: []api.NLRI{flood}},
		"\x00\x56\x02\x00\x00\x00\x3f\x40\x01\x01\x00\x40\x02\x00\x80\x0e\x1c\x00\x19\x46\x04\x00\x00\x00\x00\x00\x03\x11\x00\x01\x0a\xff\x00\x01\x00\x05\x00\x00\x00\x00\x20\x0a\xff\x00\x01" +
			"\x80\x0f\x16\x00\x19\x46\x03\x11\x00\x01\x0a\xff\x00\x01\x00\x05\x00\x00\x00\x00\x20\x0a\xff\x00\x01",
	},
	{api.Msg{Kind: 3}, "\x00\x15\x03\x00\x00"},
	{api.Msg{Kind: 3, Code: 255, Sub: 255}, "\x00\x15\x03\xff\xff"},
}

// checkMsg fails the test unless Check and Bytes say of m what the model says, which must be the wanted error, and do not change m.
func checkMsg(t *testing.T, m api.Msg, want api.Errno) {
	t.Helper()
	before := clone(m)
	wanted, modelled := modelBytes(m)
	if modelled != want {
		t.Errorf("the model of %+v: %d, want %d", m, modelled, want)
	}
	if got := msg.Check(m); got != want {
		t.Errorf("Check(%+v) = %d, want %d", m, got, want)
	}
	for range 2 {
		b, err := msg.Bytes(m)
		if err != want || !bytes.Equal(b, wanted) {
			t.Errorf("Bytes(%+v) = % x %d, want % x %d", m, b, err, wanted, want)
		}
		// The bytes are new memory: the second call returns the same.
		clear(b[:cap(b)])
	}
	if !equal(m, before) {
		t.Errorf("%+v was changed to %+v", before, m)
	}
}

// P6.1: messages are encoded as the table of the chapter says.
func TestBytes(t *testing.T) {
	for _, s := range samples {
		checkMsg(t, s.m, api.OK)
		if b, err := msg.Bytes(s.m); err != api.OK || string(b) != marker+s.bytes {
			t.Errorf("Bytes(%+v) = % x %d, want % x", s.m, b, err, s.bytes)
		}
	}
}

// P6.1: what is none of the five kinds gives ErrType, whatever else is wrong.
func TestCheckKind(t *testing.T) {
	for _, kind := range strangeKinds {
		checkMsg(t, api.Msg{Kind: kind}, api.ErrType)
		checkMsg(t, api.Msg{Kind: kind, Code: -1, Open: api.Open{Hold: 1}, A: api.Attrs{Origin: 9}, Reach: []api.NLRI{{}}}, api.ErrType)
		for _, f := range fields {
			m := api.Msg{Kind: kind}
			f.set(&m)
			checkMsg(t, m, api.ErrType)
		}
	}
	for kind := 1; kind <= 5; kind++ {
		checkMsg(t, api.Msg{Kind: kind}, api.OK)
	}
}

// P6.1: a field that the kind does not use gives ErrForm, before the errors of those that it uses; an empty list is zero.
func TestCheckFields(t *testing.T) {
	for _, f := range fields {
		for kind := 1; kind <= 5; kind++ {
			m := api.Msg{Kind: kind}
			f.set(&m)
			if kind == f.kind {
				_, err := modelBytes(m)
				checkMsg(t, m, err)
				continue
			}
			checkMsg(t, m, api.ErrForm)
			switch kind {
			case 1:
				m.Open.Hold = 1
			case 2:
				m.A.Origin = 3
			case 3:
				m.Code = 256
			}
			checkMsg(t, m, api.ErrForm)
		}
	}
	for _, s := range samples {
		m := s.m
		if m.Kind != 2 {
			m.Reach, m.Unreach = []api.NLRI{}, []api.NLRI{}
			m.A = api.Attrs{Path: []uint32{}, Clusters: []api.IP{}, Comms: []api.Comm{}}
			checkMsg(t, m, api.OK)
			for _, n := range []int{-1, 256, 1 << 32} {
				if m.Kind != 3 {
					checkMsg(t, api.Msg{Kind: m.Kind, Code: n}, api.ErrForm)
					checkMsg(t, api.Msg{Kind: m.Kind, Sub: n}, api.ErrForm)
				}
			}
		}
	}
}

// P6.1: the hold time is 0 or from 3 to 65,535, the restart time from 0 to 4,095; the other numbers of an OPEN may be any.
func TestCheckOpen(t *testing.T) {
	holds := map[int]api.Errno{0: 0, 3: 0, 4: 0, 255: 0, 256: 0, 65534: 0, 65535: 0, 1: 2, 2: 2, -1: 2, -2: 2, -65536: 2, 65536: 2, 65539: 2, 1 << 32: 2, 1<<32 + 3: 2, math.MinInt: 2, math.MaxInt: 2}
	restarts := map[int]api.Errno{0: 0, 1: 0, 255: 0, 256: 0, 4094: 0, 4095: 0, -1: 2, -4096: 2, 4096: 2, 4097: 2, 32768: 2, 65536: 2, 1 << 32: 2, math.MinInt: 2, math.MaxInt: 2}
	for hold, one := range holds {
		for restart, other := range restarts {
			for _, restarted := range []bool{false, true} {
				m := api.Msg{Kind: 1, Open: api.Open{AS: 7, Hold: hold, ID: 9, Restart: restart, Restarted: restarted}}
				checkMsg(t, m, max(one, other))
			}
		}
	}
	for _, n := range []uint32{0, 1, 255, 256, 23455, 23456, 65535, 65536, 65537, 1 << 31, math.MaxUint32} {
		checkMsg(t, api.Msg{Kind: 1, Open: api.Open{AS: n}}, api.OK)
		checkMsg(t, api.Msg{Kind: 1, Open: api.Open{ID: api.IP(n)}}, api.OK)
	}
}

// P6.1: the numbers of a notice are from 0 to 255.
func TestCheckNotice(t *testing.T) {
	for n, want := range map[int]api.Errno{0: 0, 1: 0, 127: 0, 128: 0, 254: 0, 255: 0, -1: 2, -255: 2, -256: 2, 256: 2, 257: 2, 1 << 32: 2, math.MinInt: 2, math.MaxInt: 2} {
		checkMsg(t, api.Msg{Kind: 3, Code: n}, want)
		checkMsg(t, api.Msg{Kind: 3, Sub: n}, want)
		checkMsg(t, api.Msg{Kind: 3, Code: n, Sub: 255}, want)
		checkMsg(t, api.Msg{Kind: 3, Code: 255, Sub: n}, want)
	}
}

// P6.1: an update that attr.Bytes does not encode gives its error, also if it would be too long.
func TestCheckUpdate(t *testing.T) {
	long := sized(5000)
	one := []api.NLRI{flood}
	for _, x := range []struct {
		m   api.Msg
		err api.Errno
	}{
		{api.Msg{Kind: 2, A: api.Attrs{Origin: 3}, Reach: one}, api.ErrRange},
		{api.Msg{Kind: 2, A: api.Attrs{Origin: 3}}, api.ErrRange},
		{api.Msg{Kind: 2, A: api.Attrs{Path: make([]uint32, 33)}, Reach: one}, api.ErrLong},
		{api.Msg{Kind: 2, A: api.Attrs{Med: 1}, Reach: one}, api.ErrForm},
		{api.Msg{Kind: 2, A: api.Attrs{Tunnel: api.Tunnel{Kind: 4}}, Reach: one}, api.ErrType},
		{api.Msg{Kind: 2, A: api.Attrs{Next: 1}}, api.ErrForm},
		{api.Msg{Kind: 2, A: api.Attrs{Next: 1}, Unreach: one}, api.ErrForm},
		{api.Msg{Kind: 2, A: api.Attrs{Next: 1}, Reach: one, Unreach: one}, api.OK},
		{api.Msg{Kind: 2, Reach: []api.NLRI{flood, {Kind: 2, MAC: 1 << 48}}}, api.ErrRange},
		{api.Msg{Kind: 2, Reach: []api.NLRI{flood, {}}}, api.ErrType},
		{api.Msg{Kind: 2, Unreach: []api.NLRI{flood, {Kind: 3}}}, api.ErrForm},
		{api.Msg{Kind: 2, Reach: []api.NLRI{{Kind: 3}}, Unreach: []api.NLRI{{}}}, api.ErrForm},
		{api.Msg{Kind: 2, A: api.Attrs{Origin: 3}, Reach: long}, api.ErrRange},
		{api.Msg{Kind: 2, Reach: long, Unreach: []api.NLRI{{}}}, api.ErrType},
		{api.Msg{Kind: 2, A: api.Attrs{Next: 1}, Unreach: long}, api.ErrForm},
		{api.Msg{Kind: 2, Reach: long}, api.ErrLong},
		{api.Msg{Kind: 2, Unreach: long}, api.ErrLong},
		{api.Msg{Kind: 2, Unreach: sized(66000)}, api.ErrLong},
	} {
		checkMsg(t, x.m, x.err)
	}
}

// P6.1: an update has at most 4,096 bytes.
func TestCheckLong(t *testing.T) {
	// Before the routes are the head, two numbers, and the attribute with its length of two bytes and the family.
	const withdrawing = 19 + 4 + 4 + 3
	// An announcement has an origin, a path, and a next hop with its size and a zero byte besides.
	const announcing = withdrawing + 4 + 3 + 6
	for size := 4096 - 30; size <= 4096+30; size++ {
		want := api.OK
		if size > 4096 {
			want = api.ErrLong
		}
		m := api.Msg{Kind: 2, Unreach: sized(size - withdrawing)}
		checkMsg(t, m, want)
		n := api.Msg{Kind: 2, A: api.Attrs{Next: 1}, Reach: sized(size - announcing)}
		checkMsg(t, n, want)
		for _, x := range []api.Msg{m, n} {
			if b, err := msg.Bytes(x); err == api.OK && len(b) != size {
				t.Errorf("%d bytes, want %d", len(b), size)
			}
		}
	}
}

// P6.1: Check and Bytes say what the models say, also of messages in which several things are wrong.
func TestBytesModel(t *testing.T) {
	r := rand.New(rand.NewPCG(6, 1))
	counts := map[api.Errno]int{}
	for range 20000 {
		m := mixedMsg(r)
		_, err := modelBytes(m)
		checkMsg(t, m, err)
		counts[err]++
	}
	for _, e := range []api.Errno{api.OK, api.ErrRange, api.ErrForm, api.ErrLong, api.ErrType} {
		if counts[e] < 50 {
			t.Errorf("only %d messages with the error %d", counts[e], e)
		}
	}
}

// P6.1: the End of RIB is an update all of whose other fields are zero.
func TestEnd(t *testing.T) {
	for _, kind := range append(slices.Clone(strangeKinds), 1, 2, 3, 4, 5) {
		m := api.Msg{Kind: kind}
		if msg.End(m) != (kind == 2) {
			t.Errorf("End of kind %d", kind)
		}
		m.A = api.Attrs{Path: []uint32{}, Clusters: []api.IP{}, Comms: []api.Comm{}}
		m.Reach, m.Unreach = []api.NLRI{}, []api.NLRI{}
		if msg.End(m) != (kind == 2) {
			t.Errorf("End of kind %d with empty lists", kind)
		}
	}
	for _, f := range fields {
		m := api.Msg{Kind: 2}
		f.set(&m)
		if msg.End(m) {
			t.Errorf("End with %s", f.name)
		}
	}
	r := rand.New(rand.NewPCG(6, 2))
	for range 2000 {
		m := mixedMsg(r)
		zero := m.Kind == 2 && m.Open == api.Open{} && m.Code == 0 && m.Sub == 0 && attr.Zero(m.A) && len(m.Reach) == 0 && len(m.Unreach) == 0
		if msg.End(m) != zero {
			t.Errorf("End(%+v) is %t", m, !zero)
		}
	}
}
