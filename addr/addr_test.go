package addr_test

import (
	"bytes"
	"math"
	"slices"
	"testing"

	"leafmesh/addr"
	"leafmesh/api"
)

// ints are numbers at the edges of the ranges of nodes, segments and lengths, and far outside of them.
var ints = []int{math.MinInt, math.MinInt32, -256, -33, -32, -2, -1, 0, 1, 2, 8, 9, 15, 16, 24, 30, 31, 32, 33, 62, 63, 64, 65, 254, 255, 256, 257, math.MaxInt32, math.MaxUint32, math.MaxUint32 + 1, math.MaxInt}

// ips are addresses that differ from each other in bits at all positions.
var ips = []api.IP{0, 1, 2, 255, 256, 10 << 24, 10<<24 | 1, 10<<24 | 1<<16, 10<<24 | 1<<16 | 2<<8 | 3, 10<<24 | 255<<16, 10<<24 | 255<<16 | 1, 10<<24 | 255<<16 | 32, 10<<24 | 255<<16 | 33, 0x7fffffff, 0x80000000, 0xaaaaaaaa, 0x55555555, 0xfffffffe, 0xffffffff}

// macs are hardware addresses, valid and not.
var macs = []api.MAC{0, 1, 1<<40 - 1, 1 << 40, 1 << 41, 0x01005e000001, 0x020000000000 - 1, 0x020000000000, 0x020000000001, 0x02000000001f, 0x020000000020, 0x0123456789ab, api.GatewayMAC, 1<<48 - 2, api.MaxMAC, 1 << 48, 1<<48 | 1<<40, 1<<48 | 0x020000000003, 1 << 63, math.MaxUint64}

// prefixes returns each address of ips with each length, valid or not.
func prefixes() []api.Prefix {
	var out []api.Prefix
	for _, ip := range ips {
		for _, n := range ints {
			out = append(out, api.Prefix{IP: ip, Len: n})
		}
		for n := range 33 {
			out = append(out, api.Prefix{IP: ip, Len: n})
		}
	}
	return out
}

func valid(p api.Prefix) bool { return p.Len >= 0 && p.Len <= 32 }

// agree is the definition of agreement in the first n bits, bit by bit.
func agree(a, b api.IP, n int) bool {
	for i := range n {
		if a>>(31-i)&1 != b>>(31-i)&1 {
			return false
		}
	}
	return true
}

// P1.1: the addresses of nodes.
func TestNodeAddresses(t *testing.T) {
	for _, n := range ints {
		ip, err := addr.Loopback(n)
		m, fault := addr.RouterMAC(n)
		if n < 0 || n > 31 {
			if ip != 0 || m != 0 || err != api.ErrRange || fault != api.ErrRange {
				t.Errorf("node %d: %v %v, %v %v", n, ip, err, m, fault)
			}
			continue
		}
		if ip != 0x0aff0000+api.IP(n)+1 || err != api.OK || m != 0x020000000000+api.MAC(n) || fault != api.OK {
			t.Errorf("node %d: %v %v, %v %v", n, ip, err, m, fault)
		}
	}
}

// P1.1: the nodes of addresses.
func TestNodesOfAddresses(t *testing.T) {
	for n := range 32 {
		if got, is := addr.Node(0x0aff0001 + api.IP(n)); got != n || !is {
			t.Errorf("loopback of %d: %d %v", n, got, is)
		}
		if got, is := addr.RouterNode(0x020000000000 + api.MAC(n)); got != n || !is {
			t.Errorf("router of %d: %d %v", n, got, is)
		}
	}
	for _, ip := range ips {
		inside := ip >= 0x0aff0001 && ip <= 0x0aff0020
		if n, is := addr.Node(ip); is != inside || !is && n != 0 {
			t.Errorf("Node(%x) = %d %v", ip, n, is)
		}
	}
	for _, ip := range []api.IP{0x0aff0000, 0x0aff0021, 0x0aff0101, 0x0afe0001, 0x0bff0001} {
		if n, is := addr.Node(ip); n != 0 || is {
			t.Errorf("Node(%x) = %d %v", ip, n, is)
		}
	}
	for _, m := range append(macs, 0x030000000000, 0x020000000100, 0x120000000000) {
		inside := m >= 0x020000000000 && m <= 0x02000000001f
		if n, is := addr.RouterNode(m); is != inside || !is && n != 0 {
			t.Errorf("RouterNode(%x) = %d %v", m, n, is)
		}
	}
}

// P1.1: group addresses.
func TestMulticast(t *testing.T) {
	for m, want := range map[api.MAC]bool{
		0: false, 1: false, 1<<40 - 1: false, 1 << 40: true, 2 << 40: false, 3 << 40: true, 1 << 47: false,
		api.Broadcast: true, api.GatewayMAC: false, 0x01005e000001: true, 0x020000000001: false,
		1<<48 | 1<<40: false, 1<<63 | 1<<40: false, math.MaxUint64: false,
	} {
		if got := addr.Multicast(m); got != want {
			t.Errorf("Multicast(%x) = %v", m, got)
		}
	}
}

// P1.2: Contains and Clean, compared with their definitions.
func TestContainsAndClean(t *testing.T) {
	for _, p := range prefixes() {
		for _, ip := range ips {
			want := valid(p) && agree(p.IP, ip, p.Len)
			if got := addr.Contains(p, ip); got != want {
				t.Errorf("Contains(%v, %x) = %v", p, ip, got)
			}
		}
		q, err := addr.Clean(p)
		if !valid(p) {
			if q != (api.Prefix{}) || err != api.ErrRange {
				t.Errorf("Clean(%v) = %v %v", p, q, err)
			}
			continue
		}
		low := api.IP(uint64(1)<<(32-p.Len) - 1)
		if err != api.OK || q.Len != p.Len || q.IP&low != 0 || q.IP|low != p.IP|low {
			t.Errorf("Clean(%v) = %v %v", p, q, err)
		}
	}
}

// P1.2: the addresses next to the ends of prefixes.
func TestContainsAtTheEnds(t *testing.T) {
	p := api.Prefix{IP: 0x0a010000, Len: 16}
	for ip, want := range map[api.IP]bool{0x0a00ffff: false, 0x0a010000: true, 0x0a010203: true, 0x0a01ffff: true, 0x0a020000: false} {
		if addr.Contains(p, ip) != want || addr.Contains(api.Prefix{IP: 0x0a01abcd, Len: 16}, ip) != want {
			t.Errorf("%x: not %v", ip, want)
		}
	}
	if q, err := addr.Clean(api.Prefix{IP: 0x0a010203, Len: 16}); q != p || err != api.OK {
		t.Error(q, err)
	}
}

// P1.2: Covers, compared with its definition.
func TestCovers(t *testing.T) {
	all := prefixes()
	for _, p := range all {
		for _, q := range all {
			want := valid(p) && valid(q) && p.Len <= q.Len && agree(p.IP, q.IP, p.Len)
			if got := addr.Covers(p, q); got != want {
				t.Fatalf("Covers(%v, %v) = %v", p, q, got)
			}
		}
	}
}

// P1.2: ComparePrefix is by IP, then by Len, also for prefixes that are not valid.
func TestComparePrefix(t *testing.T) {
	order := []api.Prefix{{IP: 0, Len: math.MinInt}, {IP: 0, Len: -1}, {IP: 0, Len: 0}, {IP: 0, Len: 32}, {IP: 0, Len: 33}, {IP: 0, Len: math.MaxInt}, {IP: 1, Len: math.MinInt}, {IP: 1, Len: 0}, {IP: 0x7fffffff, Len: 5}, {IP: 0x80000000, Len: 4}, {IP: 0xffffffff, Len: -7}, {IP: 0xffffffff, Len: 32}}
	for i, p := range order {
		for j, q := range order {
			want := 0
			if i < j {
				want = -1
			} else if i > j {
				want = 1
			}
			if got := addr.ComparePrefix(p, q); got != want {
				t.Errorf("ComparePrefix(%v, %v) = %d", p, q, got)
			}
		}
	}
}

// single returns the identifier in which only the byte i is set.
func single(i int, b byte) api.ESI {
	var e api.ESI
	e[i] = b
	return e
}

// identifiers returns identifiers of segments and others that differ in single bytes.
func identifiers() []api.ESI {
	out := []api.ESI{{}, {9, 1, 2, 3, 4, 5, 6, 7, 8, 9}, {3}, {3, 9: 64}, {3, 9: 65}, {3, 9: 255}, {2, 9: 1}, {9: 1}}
	for i := range 10 {
		for _, b := range []byte{1, 3, 0x7f, 0x80, 0xff} {
			e := api.ESI{3, 9: 5}
			e[i] = b
			out = append(out, e, single(i, b))
		}
	}
	return out
}

// P1.2: CompareESI is byte by byte.
func TestCompareESI(t *testing.T) {
	for _, a := range identifiers() {
		for _, b := range identifiers() {
			if got, want := addr.CompareESI(a, b), bytes.Compare(a[:], b[:]); got != want {
				t.Errorf("CompareESI(%v, %v) = %d", a, b, got)
			}
		}
	}
}

// P1.3: SegmentESI.
func TestSegmentESI(t *testing.T) {
	for _, s := range ints {
		e, err := addr.SegmentESI(s)
		if s < 0 || s > 63 {
			if e != (api.ESI{}) || err != api.ErrRange {
				t.Errorf("SegmentESI(%d) = %v %v", s, e, err)
			}
			continue
		}
		if want := (api.ESI{3, 0, 0, 0, 0, 0, 0, 0, 0, byte(s) + 1}); e != want || err != api.OK {
			t.Errorf("SegmentESI(%d) = %v %v", s, e, err)
		}
	}
}

// P1.3: ESISegment finds exactly the identifiers of segments.
func TestESISegment(t *testing.T) {
	segments := map[api.ESI]int{}
	for s := range 64 {
		e, _ := addr.SegmentESI(s)
		segments[e] = s
		if got, is := addr.ESISegment(e); got != s || !is {
			t.Errorf("segment %d: %d %v", s, got, is)
		}
	}
	if len(segments) != 64 {
		t.Error(len(segments), "identifiers")
	}
	for _, e := range identifiers() {
		want, known := segments[e]
		if got, is := addr.ESISegment(e); got != want || is != known {
			t.Errorf("ESISegment(%v) = %d %v", e, got, is)
		}
	}
}

// P1.3: Import takes the bytes 1 to 6.
func TestImport(t *testing.T) {
	if m := addr.Import(api.ESI{9, 1, 2, 3, 4, 5, 6, 7, 8, 9}); m != 0x010203040506 {
		t.Errorf("%x", m)
	}
	for i := range 10 {
		var want api.MAC
		if i >= 1 && i <= 6 {
			want = 0xab << (8 * (6 - i))
		}
		if m := addr.Import(single(i, 0xab)); m != want {
			t.Errorf("byte %d: %x", i, m)
		}
	}
}

// P1.6: Covers is reflexive and transitive, and Contains is Covers of a whole address.
func TestCoversIsAnOrder(t *testing.T) {
	var some []api.Prefix
	for _, p := range prefixes() {
		if addr.Covers(p, p) != valid(p) {
			t.Errorf("Covers(%v, itself) = %v", p, !valid(p))
		}
		for _, ip := range ips {
			if addr.Contains(p, ip) != addr.Covers(p, api.Prefix{IP: ip, Len: 32}) {
				t.Errorf("%v, %x: Contains and Covers differ", p, ip)
			}
		}
		if slices.Contains([]int{-1, 0, 1, 8, 16, 31, 32, 33}, p.Len) {
			some = append(some, p)
		}
	}
	for _, p := range some {
		for _, q := range some {
			if !addr.Covers(p, q) {
				continue
			}
			for _, r := range some {
				if addr.Covers(q, r) && !addr.Covers(p, r) {
					t.Fatalf("%v covers %v, that %v, but not the first the last", p, q, r)
				}
			}
		}
	}
}
