package nlri_test

import (
	"bytes"
	"math"
	"math/rand/v2"
	"slices"
	"testing"

	"leafmesh/api"
	"leafmesh/nlri"
)

// samples are valid routes of all kinds and sizes; all bytes of their values are different where that is possible.
var samples = []struct {
	route api.NLRI
	bytes string
}{
	{
		api.NLRI{Kind: 1, RD: 0x0102030405060708, ESI: api.ESI{11, 12, 13, 14, 15, 16, 17, 18, 19, 20}, Tag: 0x21222324, Label: 0x313233},
		"\x01\x19\x01\x02\x03\x04\x05\x06\x07\x08\x0b\x0c\x0d\x0e\x0f\x10\x11\x12\x13\x14\x21\x22\x23\x24\x31\x32\x33",
	},
	{
		api.NLRI{Kind: 2, RD: 0x0102030405060708, ESI: api.ESI{11, 12, 13, 14, 15, 16, 17, 18, 19, 20}, Tag: 0x21222324, MAC: 0x414243444546, Label: 0x313233},
		"\x02\x21\x01\x02\x03\x04\x05\x06\x07\x08\x0b\x0c\x0d\x0e\x0f\x10\x11\x12\x13\x14\x21\x22\x23\x24\x30\x41\x42\x43\x44\x45\x46\x00\x31\x32\x33",
	},
	{
		api.NLRI{Kind: 2, RD: 0x0102030405060708, ESI: api.ESI{11, 12, 13, 14, 15, 16, 17, 18, 19, 20}, Tag: 0x21222324, MAC: 0x414243444546, Label: 0x313233, Label2: 0x616263},
		"\x02\x24\x01\x02\x03\x04\x05\x06\x07\x08\x0b\x0c\x0d\x0e\x0f\x10\x11\x12\x13\x14\x21\x22\x23\x24\x30\x41\x42\x43\x44\x45\x46\x00\x31\x32\x33\x61\x62\x63",
	},
	{
		api.NLRI{Kind: 2, RD: 0x0102030405060708, ESI: api.ESI{11, 12, 13, 14, 15, 16, 17, 18, 19, 20}, Tag: 0x21222324, MAC: 0x414243444546, HasIP: true, IP: 0x51525354, Label: 0x313233},
		"\x02\x25\x01\x02\x03\x04\x05\x06\x07\x08\x0b\x0c\x0d\x0e\x0f\x10\x11\x12\x13\x14\x21\x22\x23\x24\x30\x41\x42\x43\x44\x45\x46\x20\x51\x52\x53\x54\x31\x32\x33",
	},
	{
		api.NLRI{Kind: 2, RD: 0x0102030405060708, ESI: api.ESI{11, 12, 13, 14, 15, 16, 17, 18, 19, 20}, Tag: 0x21222324, MAC: 0x414243444546, HasIP: true, IP: 0x51525354, Label: 0x313233, Label2: 0x616263},
		"\x02\x28\x01\x02\x03\x04\x05\x06\x07\x08\x0b\x0c\x0d\x0e\x0f\x10\x11\x12\x13\x14\x21\x22\x23\x24\x30\x41\x42\x43\x44\x45\x46\x20\x51\x52\x53\x54\x31\x32\x33\x61\x62\x63",
	},
	{
		api.NLRI{Kind: 3, RD: 0x0102030405060708, Tag: 0x21222324, HasIP: true, IP: 0x51525354},
		"\x03\x11\x01\x02\x03\x04\x05\x06\x07\x08\x21\x22\x23\x24\x20\x51\x52\x53\x54",
	},
	{
		api.NLRI{Kind: 4, RD: 0x0102030405060708, ESI: api.ESI{11, 12, 13, 14, 15, 16, 17, 18, 19, 20}, HasIP: true, IP: 0x51525354},
		"\x04\x17\x01\x02\x03\x04\x05\x06\x07\x08\x0b\x0c\x0d\x0e\x0f\x10\x11\x12\x13\x14\x20\x51\x52\x53\x54",
	},
	{
		api.NLRI{Kind: 5, RD: 0x0102030405060708, ESI: api.ESI{11, 12, 13, 14, 15, 16, 17, 18, 19, 20}, Tag: 0x21222324, Prefix: api.Prefix{IP: 0x71727374, Len: 30}, Gateway: 0x81828384, Label: 0x313233},
		"\x05\x22\x01\x02\x03\x04\x05\x06\x07\x08\x0b\x0c\x0d\x0e\x0f\x10\x11\x12\x13\x14\x21\x22\x23\x24\x1e\x71\x72\x73\x74\x81\x82\x83\x84\x31\x32\x33",
	},
	{
		// The first example of the chapter.
		api.NLRI{Kind: 3, RD: 0x00010aff00010005, HasIP: true, IP: 0x0aff0001},
		"\x03\x11\x00\x01\x0a\xff\x00\x01\x00\x05\x00\x00\x00\x00\x20\x0a\xff\x00\x01",
	},
	{
		// The second one.
		api.NLRI{Kind: 2, MAC: 0x020000000007, Label: 100},
		"\x02\x21" + "\x00\x00\x00\x00\x00\x00\x00\x00\x00\x00\x00\x00\x00\x00\x00\x00\x00\x00\x00\x00\x00\x00" + "\x30\x02\x00\x00\x00\x00\x07\x00\x00\x00\x64",
	},
	{
		// An address that is there counts, even if it is zero.
		api.NLRI{Kind: 2, HasIP: true},
		"\x02\x25" + "\x00\x00\x00\x00\x00\x00\x00\x00\x00\x00\x00\x00\x00\x00\x00\x00\x00\x00\x00\x00\x00\x00" + "\x30\x00\x00\x00\x00\x00\x00\x20\x00\x00\x00\x00\x00\x00\x00",
	},
}

// checkRoute fails the test unless Check and Bytes say of n what they must.
func checkRoute(t *testing.T, n api.NLRI, want api.Errno) {
	t.Helper()
	if got := nlri.Check(n); got != want {
		t.Errorf("Check(%+v) = %d, want %d", n, got, want)
	}
	b, err := nlri.Bytes(n)
	if err != want {
		t.Errorf("Bytes(%+v): %d, want %d", n, err, want)
	}
	if want != api.OK && len(b) != 0 {
		t.Errorf("Bytes(%+v) = % x with an error", n, b)
	}
	if want == api.OK && !bytes.Equal(b, modelBytes(n)) {
		t.Errorf("Bytes(%+v) = % x, want % x", n, b, modelBytes(n))
	}
}

// P4.1: what is none of the five kinds gives ErrType, whatever else is wrong.
func TestCheckKind(t *testing.T) {
	for _, kind := range strangeKinds {
		checkRoute(t, api.NLRI{Kind: kind}, api.ErrType)
		checkRoute(t, api.NLRI{Kind: kind, HasIP: true, IP: 5}, api.ErrType)
		checkRoute(t, api.NLRI{Kind: kind, MAC: math.MaxUint64, Label: math.MaxUint32, Label2: math.MaxUint32, Prefix: api.Prefix{IP: 1, Len: 33}}, api.ErrType)
	}
	for _, s := range samples {
		checkRoute(t, s.route, api.OK)
	}
}

// P4.1: a field that the kind does not use gives ErrForm, also if it is out of range; a field that it uses may have a value.
func TestCheckFields(t *testing.T) {
	for _, s := range samples {
		for _, f := range fields {
			n := s.route
			f.set(&n)
			if !slices.Contains(f.kinds, n.Kind) {
				checkRoute(t, n, api.ErrForm)
			} else {
				checkRoute(t, n, modelCheck(n))
			}
		}
		for i := range s.route.ESI {
			n := s.route
			n.ESI = api.ESI{}
			n.ESI[i] = 200
			checkRoute(t, n, map[bool]api.Errno{true: api.ErrForm}[n.Kind == 3])
		}
		for _, p := range []api.Prefix{{Len: -1}, {Len: 33}, {IP: 1, Len: 1}, {IP: 1, Len: 99}} {
			if n := s.route; n.Kind != 5 {
				n.Prefix = p
				checkRoute(t, n, api.ErrForm)
			}
		}
	}
}

// P4.1: KindFlood and KindSegment have an address; KindMAC may have one, and without it IP is zero.
func TestCheckAddress(t *testing.T) {
	for _, ip := range []api.IP{0, 1, 1 << 31, math.MaxUint32} {
		for _, kind := range []int{3, 4} {
			checkRoute(t, api.NLRI{Kind: kind, HasIP: true, IP: ip}, api.OK)
			checkRoute(t, api.NLRI{Kind: kind, IP: ip}, api.ErrForm)
		}
		checkRoute(t, api.NLRI{Kind: 2, HasIP: true, IP: ip}, api.OK)
		checkRoute(t, api.NLRI{Kind: 2, IP: ip}, map[bool]api.Errno{true: api.ErrForm}[ip != 0])
		checkRoute(t, api.NLRI{Kind: 2, IP: ip, MAC: api.MaxMAC + 1}, map[bool]api.Errno{true: api.ErrForm, false: api.ErrRange}[ip != 0])
	}
}

// P4.1: numbers that are too great give ErrRange; the greatest ones that fit do not.
func TestCheckRange(t *testing.T) {
	checkRoute(t, api.NLRI{Kind: 2, MAC: 0xffffffffffff, Label: 0xffffff, Label2: 0xffffff}, api.OK)
	for _, m := range []api.MAC{1 << 48, 1<<48 + 1, 1<<56 + 3, 1 << 63, math.MaxUint64} {
		checkRoute(t, api.NLRI{Kind: 2, MAC: m}, api.ErrRange)
	}
	for _, label := range []uint32{1 << 24, 1<<24 + 1, 1 << 31, math.MaxUint32} {
		for _, kind := range []int{1, 2, 5} {
			checkRoute(t, api.NLRI{Kind: kind, Label: 0xffffff}, api.OK)
			checkRoute(t, api.NLRI{Kind: kind, Label: label}, api.ErrRange)
		}
		checkRoute(t, api.NLRI{Kind: 2, Label2: label}, api.ErrRange)
		checkRoute(t, api.NLRI{Kind: 3, HasIP: true, Label: label}, api.ErrForm)
		checkRoute(t, api.NLRI{Kind: 1, Label2: label}, api.ErrForm)
	}
	for _, tag := range []uint32{1 << 31, math.MaxUint32} {
		checkRoute(t, api.NLRI{Kind: 1, Tag: tag, RD: math.MaxUint64}, api.OK)
	}
}

// P4.1: the length of a prefix is from 0 to 32 (otherwise ErrRange), and it has no host bits (otherwise ErrForm).
func TestCheckPrefix(t *testing.T) {
	for _, length := range []int{math.MinInt, -1 << 32, -33, -1, 33, 64, 255, 256, 1 << 32, math.MaxInt} {
		for _, ip := range []api.IP{0, 1, 10 << 24, math.MaxUint32} {
			checkRoute(t, api.NLRI{Kind: 5, Prefix: api.Prefix{IP: ip, Len: length}}, api.ErrRange)
		}
	}
	for length := range 33 {
		ones := api.IP(uint64(math.MaxUint32) << (32 - length))
		checkRoute(t, api.NLRI{Kind: 5, Prefix: api.Prefix{IP: ones, Len: length}}, api.OK)
		checkRoute(t, api.NLRI{Kind: 5, Prefix: api.Prefix{Len: length}}, api.OK)
		for bit := range 32 - length {
			n := api.NLRI{Kind: 5, Prefix: api.Prefix{IP: ones | 1<<bit, Len: length}}
			checkRoute(t, n, api.ErrForm)
			n.Label = 1 << 24
			checkRoute(t, n, api.ErrRange)
		}
	}
}

// P4.1: Check and Bytes of random routes, valid ones and others.
func TestCheckRandom(t *testing.T) {
	r := rand.New(rand.NewPCG(4, 1))
	counts := map[api.Errno]int{}
	for range 100000 {
		n := mixedRoute(r)
		want := modelCheck(n)
		counts[want]++
		checkRoute(t, n, want)
		checkRoute(t, validRoute(r), api.OK)
		n = anyRoute(r)
		checkRoute(t, n, modelCheck(n))
		if t.Failed() {
			return
		}
	}
	for _, e := range []api.Errno{api.OK, api.ErrType, api.ErrForm, api.ErrRange} {
		if counts[e] < 1000 {
			t.Errorf("only %d routes with the error %d", counts[e], e)
		}
	}
}

// P4.1: the encoded routes, byte by byte, in new memory each time.
func TestBytes(t *testing.T) {
	for _, s := range samples {
		for range 2 {
			got, err := nlri.Bytes(s.route)
			if err != api.OK || string(got) != s.bytes {
				t.Fatalf("Bytes(%+v) = % x %d, want % x", s.route, got, err, s.bytes)
			}
			clear(got[:cap(got)])
		}
	}
}
