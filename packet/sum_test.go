package packet_test

import (
	"bytes"
	"math/rand/v2"
	"testing"

	"leafmesh/packet"
)

// checkSum fails the test unless Sum returns what the model says, without changing its argument.
func checkSum(t *testing.T, b []byte) {
	t.Helper()
	before := bytes.Clone(b)
	if got, want := packet.Sum(b), modelSum(before); got != want {
		t.Errorf("Sum of %d bytes % .60x = %04x, want %04x", len(b), before, got, want)
	}
	if !bytes.Equal(b, before) {
		t.Errorf("Sum changed % .60x to % .60x", before, b)
	}
}

// P7.2: sums with and without carries, of even and odd numbers of bytes.
func TestSum(t *testing.T) {
	for s, want := range map[string]uint16{
		"":                 0xffff,
		"\x00":             0xffff,
		"\x00\x00\x00":     0xffff,
		"\x01":             0xfeff,
		"\xff":             0x00ff,
		"\x00\x01":         0xfffe,
		"\x12\x34":         0xedcb,
		"\x12\x34\x56":     0x97cb,
		"\x12\x34\x00\x56": 0xed75,
		"\xff\xff":         0x0000,
		"\xff\xff\xff\xff": 0x0000,
		"\xff\xff\x00\x00": 0x0000,
		// A carry is added again.
		"\xff\xff\x00\x01":         0xfffe,
		"\x80\x00\x80\x00":         0xfffe,
		"\x80\x00\x80":             0xfffe,
		"\xff\xfe\x00\x02\xff\xff": 0xfffe,
		// The example of RFC 1071, and the header of the chapter's example, without its checksum and with it.
		"\x00\x01\xf2\x03\xf4\xf5\xf6\xf7":                                                 0x220d,
		"\x45\x00\x00\x1c\x00\x00\x00\x00\x40\x01\x00\x00\x0a\x01\x00\x01\x0a\x01\x00\x02": 0x66dd,
		"\x45\x00\x00\x1c\x00\x00\x00\x00\x40\x01\x66\xdd\x0a\x01\x00\x01\x0a\x01\x00\x02": 0x0000,
	} {
		if got := packet.Sum([]byte(s)); got != want {
			t.Errorf("Sum(% x) = %04x, want %04x", s, got, want)
		}
		checkSum(t, []byte(s))
	}
	if got := packet.Sum(nil); got != 0xffff {
		t.Errorf("Sum(nil) = %04x", got)
	}
}

// P7.2: each number, alone and behind the greatest one.
func TestSumNumbers(t *testing.T) {
	for n := range 1 << 16 {
		high, low := byte(n>>8), byte(n)
		if got := packet.Sum([]byte{high, low}); got != uint16(0xffff-n) {
			t.Errorf("Sum of %04x = %04x", n, got)
		}
		checkSum(t, []byte{0xff, 0xff, high, low})
		checkSum(t, []byte{high, low, 0xff})
	}
}

// P7.2: any number of bytes, also one whose sum does not fit in 32 bits; what lies behind them does not count.
func TestSumLong(t *testing.T) {
	r := rand.New(rand.NewPCG(7, 2))
	long := bytes.Repeat([]byte{0xff}, 1<<19)
	for _, n := range []int{1<<17 - 1, 1 << 17, 1<<17 + 1, 1<<17 + 2, 1<<18 + 3, 1 << 19} {
		checkSum(t, long[:n])
		checkSum(t, append([]byte{1}, long[:n-1]...))
	}
	for range 20000 {
		b := make([]byte, r.IntN(60))
		for i := range b {
			b[i] = pick(r, 0, 0xff, byte(r.Uint32()))
		}
		checkSum(t, b)
		checkSum(t, b[:len(b)/2])
	}
}
