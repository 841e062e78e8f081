package addr_test

import (
	"regexp"
	"strconv"
	"strings"
	"testing"

	"leafmesh/addr"
	"leafmesh/api"
)

// The forms of the texts, written down independently of the parsers.
var (
	macForm    = regexp.MustCompile(`\A[0-9a-fA-F]{2}(:[0-9a-fA-F]{2}){5}\z`)
	esiForm    = regexp.MustCompile(`\A[0-9a-fA-F]{2}(:[0-9a-fA-F]{2}){9}\z`)
	octet      = `(0|[1-9][0-9]?|1[0-9][0-9]|2[0-4][0-9]|25[0-5])`
	ipForm     = regexp.MustCompile(`\A` + octet + `(\.` + octet + `){3}\z`)
	prefixForm = regexp.MustCompile(`\A` + octet + `(\.` + octet + `){3}/([0-9]|[12][0-9]|3[0-2])\z`)
)

// oddTexts are texts that are no addresses of any sort.
var oddTexts = []string{"", " ", ":", ".", "/", "::::::", ":::::", "...", "....", ".../", "/8", "x", "é", "\x00", "\xff", "00", "1",
	"1:2:3:4:5:6", "00:00:00:00:00", "00:00:00:00:00:00:00", "00-00-00-00-00-00", "000:00:00:00:00:00", "0x:00:00:00:00:00", "+1:00:00:00:00:00", "-1:00:00:00:00:00", " 00:00:00:00:00:00", "00:00:00:00:00:00 ", "00:00:00:00:00:00:", ":00:00:00:00:00:00", "00:00:00::00:00", "0g:00:00:00:00:00", "0G:00:00:00:00:00", "@0:00:00:00:00:00", "`0:00:00:00:00:00", "/0:00:00:00:00:00",
	"10.0.0", "10.0.0.0.0", "10.0.0.", ".10.0.0.1", "10..0.1", "10.0.0.01", "10.0.0.00", "010.0.0.1", "10.0.0.256", "10.0.0.999", "10.0.0.1000", "10.0.0.4294967296", "10.0.0.18446744073709551616", "10.0.0.+1", "10.0.0.-1", "10.0.0.1 ", " 10.0.0.1", "10.0.0.a", "10.0.0.0x1", "10,0,0,1", "10.0.0.١", "1_0.0.0.1",
	"10.1.0.0/", "10.1.0.0/33", "10.1.0.0/016", "10.1.0.0/00", "10.1.0.0/-1", "10.1.0.0/+8", "10.1.0.0/100", "10.1.0.0/4294967304", "10.1.0.0/16/", "10.1.0.0/16/8", "10.1.0.0//16", "10.1.0.0/ 16", "10.1.0.0/16 ", "10.1.0.0/a", "10.1.0/16", "10.1.0.0.0/16", "10.1.0.00/16", "10.1.0.256/16",
	strings.Repeat("0", 1000), strings.Repeat("00:", 1000), strings.Repeat("0.", 1000), "1.1.1.1/" + strings.Repeat("1", 1000)}

// spoilt returns texts that differ from s in one place: a byte is missing, replaced, or inserted.
func spoilt(s string) []string {
	var out []string
	for i := range len(s) + 1 {
		for _, c := range "059aAfFgG:./-+ \n\x00é" {
			out = append(out, s[:i]+string(c)+s[i:])
			if i < len(s) {
				out = append(out, s[:i]+string(c)+s[i+1:])
			}
		}
		if i < len(s) {
			out = append(out, s[:i]+s[i+1:], s[:i]+s[i:i+1]+s[i:], s[:i], s[i:])
		}
	}
	return out
}

// candidates returns texts of all sorts, with and without faults.
func candidates() []string {
	out := append([]string{}, oddTexts...)
	for _, s := range []string{"02:00:00:00:00:0a", "AB:cd:EF:01:23:99", "03:00:00:00:00:00:00:00:00:05", "10.255.0.1", "0.0.0.0", "255.255.255.255", "192.168.99.200", "10.1.0.0/16", "0.0.0.0/0", "255.255.255.255/32", "192.168.128.0/18", "1.2.3.4/29"} {
		out = append(append(out, s), spoilt(s)...)
	}
	return out
}

// P1.4: what ParseMAC and ParseESI accept and return.
func TestParseHexadecimal(t *testing.T) {
	for _, s := range candidates() {
		hex := strings.ReplaceAll(s, ":", "")
		m, err := addr.ParseMAC(s)
		if macForm.MatchString(s) {
			want, _ := strconv.ParseUint(hex, 16, 64)
			if m != api.MAC(want) || err != api.OK {
				t.Errorf("ParseMAC(%q) = %x %v", s, m, err)
			}
		} else if m != 0 || err != api.ErrSyntax {
			t.Errorf("ParseMAC(%q) = %x %v", s, m, err)
		}
		var want api.ESI
		fault := api.ErrSyntax
		if esiForm.MatchString(s) {
			fault = api.OK
			for i := range want {
				b, _ := strconv.ParseUint(hex[2*i:2*i+2], 16, 8)
				want[i] = byte(b)
			}
		}
		if e, err := addr.ParseESI(s); e != want || err != fault {
			t.Errorf("ParseESI(%q) = %v %v", s, e, err)
		}
	}
}

// dotted returns the address of a text that is one.
func dotted(s string) api.IP {
	var ip api.IP
	for part := range strings.SplitSeq(s, ".") {
		b, _ := strconv.Atoi(part)
		ip = ip<<8 + api.IP(b)
	}
	return ip
}

// P1.4: what ParseIP accepts and returns.
func TestParseIP(t *testing.T) {
	for _, s := range candidates() {
		ip, err := addr.ParseIP(s)
		if ipForm.MatchString(s) {
			if ip != dotted(s) || err != api.OK {
				t.Errorf("ParseIP(%q) = %x %v", s, ip, err)
			}
		} else if ip != 0 || err != api.ErrSyntax {
			t.Errorf("ParseIP(%q) = %x %v", s, ip, err)
		}
	}
}

// P1.4: what ParsePrefix accepts and returns.
func TestParsePrefix(t *testing.T) {
	for _, s := range candidates() {
		var want api.Prefix
		fault := api.ErrSyntax
		if prefixForm.MatchString(s) {
			ip, length, _ := strings.Cut(s, "/")
			n, _ := strconv.Atoi(length)
			fault = api.ErrForm
			if low := api.IP(uint64(1)<<(32-n) - 1); dotted(ip)&low == 0 {
				want, fault = api.Prefix{IP: dotted(ip), Len: n}, api.OK
			}
		}
		if p, err := addr.ParsePrefix(s); p != want || err != fault {
			t.Errorf("ParsePrefix(%q) = %v %v", s, p, err)
		}
	}
}

// P1.4: a text that is wrong is so also if its prefix would not be clean.
func TestParsePrefixErrors(t *testing.T) {
	for s, want := range map[string]api.Errno{
		"10.1.2.3/16": api.ErrForm, "0.0.0.1/0": api.ErrForm, "255.255.255.255/31": api.ErrForm,
		"10.1.2.3/016": api.ErrSyntax, "10.1.2.3/33": api.ErrSyntax, "10.1.2.03/16": api.ErrSyntax, "10.1.2.3": api.ErrSyntax,
		"10.1.2.3/32": api.OK, "0.0.0.0/0": api.OK, "128.0.0.0/1": api.OK,
	} {
		if p, err := addr.ParsePrefix(s); err != want || err != api.OK && p != (api.Prefix{}) {
			t.Errorf("ParsePrefix(%q) = %v %v", s, p, err)
		}
	}
}

// P1.4: the texts of single addresses.
func TestTexts(t *testing.T) {
	for m, want := range map[api.MAC]string{0: "00:00:00:00:00:00", 0x02000000000a: "02:00:00:00:00:0a", 0x0123456789ab: "01:23:45:67:89:ab", 0xcdef00000000: "cd:ef:00:00:00:00", api.Broadcast: "ff:ff:ff:ff:ff:ff"} {
		if s, err := addr.MACText(m); s != want || err != api.OK {
			t.Errorf("MACText(%x) = %q %v", m, s, err)
		}
	}
	for ip, want := range map[api.IP]string{0: "0.0.0.0", 0x0aff0001: "10.255.0.1", 0x01020304: "1.2.3.4", 0xc0a863c8: "192.168.99.200", 0xffffffff: "255.255.255.255"} {
		if s := addr.IPText(ip); s != want {
			t.Errorf("IPText(%x) = %q", ip, s)
		}
	}
	for p, want := range map[api.Prefix]string{{}: "0.0.0.0/0", {IP: 0x0a010000, Len: 16}: "10.1.0.0/16", {IP: 0x0a010203, Len: 9}: "10.1.2.3/9", {IP: 0xffffffff, Len: 32}: "255.255.255.255/32"} {
		if s, err := addr.PrefixText(p); s != want || err != api.OK {
			t.Errorf("PrefixText(%v) = %q %v", p, s, err)
		}
	}
	for e, want := range map[api.ESI]string{{}: "00:00:00:00:00:00:00:00:00:00", {3, 9: 5}: "03:00:00:00:00:00:00:00:00:05", {0xff, 1, 0x23, 0x45, 0x67, 0x89, 0xab, 0xcd, 0xef, 0x10}: "ff:01:23:45:67:89:ab:cd:ef:10"} {
		if s := addr.ESIText(e); s != want {
			t.Errorf("ESIText(%v) = %q", e, s)
		}
	}
}

// P1.4: addresses and prefixes that are not valid have no text.
func TestNoTexts(t *testing.T) {
	for _, m := range macs {
		if s, err := addr.MACText(m); m > api.MaxMAC && (s != "" || err != api.ErrRange) {
			t.Errorf("MACText(%x) = %q %v", m, s, err)
		}
	}
	for _, p := range prefixes() {
		if s, err := addr.PrefixText(p); !valid(p) && (s != "" || err != api.ErrRange) {
			t.Errorf("PrefixText(%v) = %q %v", p, s, err)
		}
	}
}

// P1.5: parsing the text of an address returns the address.
func TestParsingTexts(t *testing.T) {
	for i := range 1 << 12 {
		// An odd factor spreads the numbers over all bits.
		x := uint64(i) * 0x9e3779b97f4a7c15
		m := api.MAC(x >> 16)
		s, _ := addr.MACText(m)
		if back, err := addr.ParseMAC(s); back != m || err != api.OK {
			t.Errorf("%x: %q, %x %v", m, s, back, err)
		}
		if back, err := addr.ParseMAC(strings.ToUpper(s)); back != m || err != api.OK {
			t.Errorf("%x in upper case: %x %v", m, back, err)
		}
		ip := api.IP(x >> 32)
		if back, err := addr.ParseIP(addr.IPText(ip)); back != ip || err != api.OK {
			t.Errorf("%x: %x %v", ip, back, err)
		}
		p, _ := addr.Clean(api.Prefix{IP: ip, Len: i % 33})
		s, _ = addr.PrefixText(p)
		if back, err := addr.ParsePrefix(s); back != p || err != api.OK {
			t.Errorf("%v: %q, %v %v", p, s, back, err)
		}
		var e api.ESI
		for j := range e {
			e[j] = byte(x >> (5 * j))
		}
		if back, err := addr.ParseESI(addr.ESIText(e)); back != e || err != api.OK {
			t.Errorf("%v: %v %v", e, back, err)
		}
	}
}

// P1.5 and rule P2 of DOC.md: this holds for each byte, and repeating a call changes nothing.
func TestTextsOfAllBytes(t *testing.T) {
	for range 2 {
		for b := range 256 {
			e := single(b%10, byte(b))
			if back, err := addr.ParseESI(addr.ESIText(e)); back != e || err != api.OK {
				t.Errorf("%v: %v %v", e, back, err)
			}
			s := "10." + strconv.Itoa(b) + ".0.9"
			if ip, err := addr.ParseIP(s); err != api.OK || addr.IPText(ip) != s {
				t.Errorf("%q: %x %v", s, ip, err)
			}
		}
	}
}
