package addr

import (
	"iter"
	"slices"
	"strconv"
	"strings"

	"leafmesh/api"
)

// maxLen is the greatest length of a prefix.
const maxLen = 32

// number is a type of the numbers of which a text consists.
type number interface {
	~int | ~uint8 | ~uint32 | ~uint64
}

// notation says how a number is written: its base, how many digits it has, whether it may begin with a zero that it does not need, and how great it may be.
type notation struct {
	base, least, most int
	padded            bool
	limit             int
}

// hexByte, decimalByte and prefixLen are the notations of the bytes of hardware addresses and identifiers, of the bytes of IP addresses, and of the lengths of prefixes.
var (
	hexByte     = notation{base: 16, least: 2, most: 2, padded: true, limit: 255}
	decimalByte = notation{base: 10, least: 1, most: 3, limit: 255}
	prefixLen   = notation{base: 10, least: 1, most: 2, limit: maxLen}
)

// MACText returns the text of a hardware address.
func MACText(m api.MAC) (string, api.Errno) {
	if m > api.MaxMAC {
		return "", api.ErrRange
	}
	var b [6]byte
	for i := range b {
		b[i] = byte(m >> (40 - 8*i))
	}
	return colons(slices.All(b[:])), api.OK
}

// ParseMAC parses a hardware address.
func ParseMAC(s string) (api.MAC, api.Errno) {
	bytes, ok := numbers[api.MAC](s, ":", 6, hexByte)
	if !ok {
		return 0, api.ErrSyntax
	}
	return join(bytes), api.OK
}

// IPText returns the text of an address.
func IPText(ip api.IP) string {
	var b strings.Builder
	for i := range 4 {
		if i > 0 {
			b.WriteByte('.')
		}
		b.WriteString(strconv.Itoa(int(byte(ip >> (24 - 8*i)))))
	}
	return b.String()
}

// ParseIP parses an address.
func ParseIP(s string) (api.IP, api.Errno) {
	bytes, ok := numbers[api.IP](s, ".", 4, decimalByte)
	if !ok {
		return 0, api.ErrSyntax
	}
	return join(bytes), api.OK
}

// PrefixText returns the text of a prefix.
func PrefixText(p api.Prefix) (string, api.Errno) {
	if !isPrefix(p) {
		return "", api.ErrRange
	}
	return IPText(p.IP) + "/" + strconv.Itoa(p.Len), api.OK
}

// ParsePrefix parses a prefix.
func ParsePrefix(s string) (api.Prefix, api.Errno) {
	// Without a slash, last is empty, which is no number.
	first, last, _ := strings.Cut(s, "/")
	ip, err := ParseIP(first)
	length, ok := numbers[int](last, "/", 1, prefixLen)
	if err != api.OK || !ok {
		return api.Prefix{}, api.ErrSyntax
	}
	p := api.Prefix{IP: ip, Len: length[0]}
	if clean, _ := Clean(p); clean != p {
		return api.Prefix{}, api.ErrForm
	}
	return p, api.OK
}

// ESIText returns the text of an identifier.
func ESIText(e api.ESI) string { return colons(octets(e)) }

// ParseESI parses an identifier.
func ParseESI(s string) (api.ESI, api.Errno) {
	bytes, ok := numbers[byte](s, ":", len(api.ESI{}), hexByte)
	if !ok {
		return api.ESI{}, api.ErrSyntax
	}
	return api.ESI(bytes), api.OK
}

// colons returns bytes as two hexadecimal digits each, separated by colons.
func colons(bytes iter.Seq2[int, byte]) string {
	const digits = "0123456789abcdef"
	var b strings.Builder
	for i, x := range bytes {
		if i > 0 {
			b.WriteByte(':')
		}
		b.WriteByte(digits[x>>4])
		b.WriteByte(digits[x&15])
	}
	return b.String()
}

// numbers reads the parts of s between the separators, and reports whether there are exactly count of them, all written as w says.
func numbers[N number](s, separator string, count int, w notation) ([]N, bool) {
	var read []N
	more := true
parts:
	for more && len(read) < count {
		var part string
		part, s, more = strings.Cut(s, separator)
		if len(part) < w.least || len(part) > w.most || !w.padded && len(part) > 1 && part[0] == '0' {
			break parts
		}
		// The sum is an int, since N may be too small for a number above the limit.
		sum := 0
		for i := range len(part) {
			d := digit(part[i])
			if d >= w.base {
				break parts
			}
			sum = sum*w.base + d
		}
		if sum > w.limit {
			break parts
		}
		read = append(read, N(sum))
	}
	return read, !more && len(read) == count
}

// digit returns the value of a hexadecimal digit; for any other byte, more than every digit has.
func digit(c byte) int {
	switch {
	case '0' <= c && c <= '9':
		return int(c - '0')
	case 'a' <= c && c <= 'f':
		return int(c-'a') + 10
	case 'A' <= c && c <= 'F':
		return int(c-'A') + 10
	}
	return 255
}

// join returns the number whose bytes are given, most significant byte first.
func join[N api.IP | api.MAC](bytes []N) N {
	var n N
	for _, b := range bytes {
		n = n<<8 | b
	}
	return n
}
