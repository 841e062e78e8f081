// Package addr is layer 1: the addresses of the fabric and their order and text forms. See shared/doc/01-addr.md.
package addr

import (
	"cmp"
	"iter"

	"leafmesh/api"
)

// The addresses of node 0; the other nodes follow. The loopback address of node 0 is one more than the base.
const (
	loopbackBase api.IP  = 10<<24 | 255<<16
	routerBase   api.MAC = 0x020000000000
)

// groupBit is the lowest bit of the first byte of a hardware address.
const groupBit api.MAC = 1 << 40

// segmentType is the first byte of the identifiers that SegmentESI makes.
const segmentType = 3

// Loopback returns the loopback address of a node.
func Loopback(n int) (api.IP, api.Errno) {
	if !isNode(n) {
		return 0, api.ErrRange
	}
	return loopbackBase + api.IP(n) + 1, api.OK
}

// Node returns the node of a loopback address.
func Node(ip api.IP) (int, bool) {
	if ip <= loopbackBase || ip > loopbackBase+api.MaxNodes {
		return 0, false
	}
	return int(ip - loopbackBase - 1), true
}

// RouterMAC returns the router hardware address of a node.
func RouterMAC(n int) (api.MAC, api.Errno) {
	if !isNode(n) {
		return 0, api.ErrRange
	}
	return routerBase + api.MAC(n), api.OK
}

// RouterNode returns the node of a router hardware address.
func RouterNode(m api.MAC) (int, bool) {
	if m < routerBase || m >= routerBase+api.MaxNodes {
		return 0, false
	}
	return int(m - routerBase), true
}

func isNode(n int) bool { return n >= 0 && n < api.MaxNodes }

// Multicast reports whether a hardware address is a group address.
func Multicast(m api.MAC) bool { return m <= api.MaxMAC && m&groupBit != 0 }

// Contains reports whether a prefix contains an address.
func Contains(p api.Prefix, ip api.IP) bool {
	return isPrefix(p) && (p.IP^ip)&mask(p.Len) == 0
}

// Covers reports whether a prefix contains another one.
func Covers(p, q api.Prefix) bool {
	return isPrefix(q) && p.Len <= q.Len && Contains(p, q.IP)
}

// Clean returns a prefix without host bits.
func Clean(p api.Prefix) (api.Prefix, api.Errno) {
	if !isPrefix(p) {
		return api.Prefix{}, api.ErrRange
	}
	return api.Prefix{IP: p.IP & mask(p.Len), Len: p.Len}, api.OK
}

// ComparePrefix compares two prefixes.
func ComparePrefix(p, q api.Prefix) int {
	return cmp.Or(cmp.Compare(p.IP, q.IP), cmp.Compare(p.Len, q.Len))
}

func isPrefix(p api.Prefix) bool { return p.Len >= 0 && p.Len <= maxLen }

// mask returns the address whose first n bits are set, for n from 0 to 32.
func mask(n int) api.IP { return ^api.IP(0) << (maxLen - n) }

// CompareESI compares two Ethernet segment identifiers.
func CompareESI(a, b api.ESI) int {
	for i, x := range octets(a) {
		if c := cmp.Compare(x, b[i]); c != 0 {
			return c
		}
	}
	return 0
}

// SegmentESI returns the identifier of a segment.
func SegmentESI(s int) (api.ESI, api.Errno) {
	if s < 0 || s >= api.MaxSegments {
		return api.ESI{}, api.ErrRange
	}
	// The number is small, so that the bytes before the last one remain zero.
	return api.ESI{0: segmentType, 9: byte(s + 1)}, api.OK
}

// ESISegment returns the segment of an identifier.
func ESISegment(e api.ESI) (int, bool) {
	s := int(e[9]) - 1
	own, err := SegmentESI(s)
	if err != api.OK || own != e {
		return 0, false
	}
	return s, true
}

// Import returns the import target of an identifier.
func Import(e api.ESI) api.MAC {
	var m api.MAC
	for i, b := range octets(e) {
		if i >= 1 && i <= 6 {
			m = m<<8 | api.MAC(b)
		}
	}
	return m
}

// octets visits the bytes of an identifier, with their positions.
func octets(e api.ESI) iter.Seq2[int, byte] {
	return func(yield func(int, byte) bool) {
		for i, b := range e {
			if !yield(i, b) {
				return
			}
		}
	}
}
