package comm_test

import (
	"math"
	"testing"

	"leafmesh/api"
	"leafmesh/comm"
)

// shorts returns numbers of two bytes: each bit by itself, and numbers whose bytes differ.
func shorts() []int {
	out := []int{0, 0x0102, 0xf1f2, math.MaxUint16}
	for bit := range 16 {
		out = append(out, 1<<bit)
	}
	return out
}

// words returns numbers of four bytes.
func words() []uint32 {
	out := []uint32{0, 0x01020304, 0xf1f2f3f4, math.MaxUint32 - 1, math.MaxUint32}
	for bit := range 32 {
		out = append(out, 1<<bit, 1<<bit-1)
	}
	return out
}

// addresses returns hardware addresses.
func addresses() []api.MAC {
	out := []api.MAC{0, 0x010203040506, 0xf1f2f3f4f5f6, api.GatewayMAC, api.MaxMAC - 1, api.MaxMAC}
	for bit := range 48 {
		out = append(out, 1<<bit)
	}
	return out
}

// outside are numbers that are neither an algorithm nor a number of two bytes.
var outside = []int{math.MinInt, math.MinInt32, -65536, -2, -1, 65536, 65537, 1 << 24, math.MaxInt32, math.MaxUint32, math.MaxInt}

// checkBuilt fails the test unless a constructor returned a community.
func checkBuilt(t *testing.T, what string, got api.Comm, err api.Errno, want api.Comm) {
	t.Helper()
	if err != api.OK || got != want {
		t.Errorf("%s = % x %v, want % x", what, got, err, want)
	}
}

// checkRefused fails the test unless a constructor returned ErrRange and a zero community.
func checkRefused(t *testing.T, what string, got api.Comm, err api.Errno) {
	t.Helper()
	if err != api.ErrRange || got != (api.Comm{}) {
		t.Errorf("%s = % x %v, want ErrRange and zero", what, got, err)
	}
}

// bit returns 1 for true.
func bit(b bool) byte {
	if b {
		return 1
	}
	return 0
}

// P3.1: a target is 00 02, the AS number and the number.
func TestTarget(t *testing.T) {
	checkBuilt(t, "the example", comm.Target(65000, 7), api.OK, api.Comm{0x00, 0x02, 0xfd, 0xe8, 0, 0, 0, 7})
	for _, as := range shorts() {
		for _, n := range words() {
			want := api.Comm{0x00, 0x02, byte(as >> 8), byte(as), byte(n >> 24), byte(n >> 16), byte(n >> 8), byte(n)}
			checkBuilt(t, "Target", comm.Target(uint16(as), n), api.OK, want)
		}
	}
}

// P3.1: an encapsulation is 03 0c, four zero bytes and the tunnel type, which is from 0 to 65,535.
func TestEncap(t *testing.T) {
	c, err := comm.Encap(8)
	checkBuilt(t, "Encap(8)", c, err, api.Comm{0x03, 0x0c, 0, 0, 0, 0, 0, 8})
	for _, n := range shorts() {
		c, err := comm.Encap(n)
		checkBuilt(t, "Encap", c, err, api.Comm{0x03, 0x0c, 0, 0, 0, 0, byte(n >> 8), byte(n)})
	}
	for _, n := range outside {
		c, err := comm.Encap(n)
		checkRefused(t, "Encap", c, err)
	}
}

// P3.1: a mobility is 06 00, a byte for sticky, a zero byte and the sequence number.
func TestMobility(t *testing.T) {
	checkBuilt(t, "Mobility(true, 3)", comm.Mobility(true, 3), api.OK, api.Comm{0x06, 0x00, 1, 0, 0, 0, 0, 3})
	for _, sticky := range []bool{false, true} {
		for _, n := range words() {
			want := api.Comm{0x06, 0x00, bit(sticky), 0, byte(n >> 24), byte(n >> 16), byte(n >> 8), byte(n)}
			checkBuilt(t, "Mobility", comm.Mobility(sticky, n), api.OK, want)
		}
	}
}

// P3.1: a label is 06 01, a byte for single-active, two zero bytes and the label, which is at most MaxVNI.
func TestLabel(t *testing.T) {
	c, err := comm.Label(true, 258)
	checkBuilt(t, "Label(true, 258)", c, err, api.Comm{0x06, 0x01, 1, 0, 0, 0, 1, 2})
	for _, single := range []bool{false, true} {
		for _, n := range append(words(), 16777214, 16777215, 16777216, 16777217) {
			c, err := comm.Label(single, n)
			if n > 16777215 {
				checkRefused(t, "Label", c, err)
				continue
			}
			checkBuilt(t, "Label", c, err, api.Comm{0x06, 0x01, bit(single), 0, 0, byte(n >> 16), byte(n >> 8), byte(n)})
		}
	}
}

// P3.1: an import target is 06 02, a router address 06 03, each with a hardware address of at most MaxMAC.
func TestHardwareAddresses(t *testing.T) {
	for _, k := range []struct {
		low   byte
		build func(api.MAC) (api.Comm, api.Errno)
	}{{0x02, comm.Import}, {0x03, comm.Router}} {
		for _, m := range addresses() {
			c, err := k.build(m)
			want := api.Comm{0x06, k.low, byte(m >> 40), byte(m >> 32), byte(m >> 24), byte(m >> 16), byte(m >> 8), byte(m)}
			checkBuilt(t, "the community of an address", c, err, want)
		}
		for _, m := range []api.MAC{api.MaxMAC + 1, api.MaxMAC + 2, 1<<56 + 5, 1 << 63, math.MaxUint64} {
			c, err := k.build(m)
			checkRefused(t, "the community of an address", c, err)
		}
	}
}

// P3.1: an election is 06 06, the algorithm (from 0 to 31), three zero bytes and the preference (from 0 to 65,535).
func TestElection(t *testing.T) {
	for alg := range 32 {
		for _, pref := range shorts() {
			c, err := comm.Election(alg, pref)
			checkBuilt(t, "Election", c, err, api.Comm{0x06, 0x06, byte(alg), 0, 0, 0, byte(pref >> 8), byte(pref)})
		}
	}
	for _, n := range outside {
		for _, good := range []int{0, 2, 31} {
			c, err := comm.Election(n, good)
			checkRefused(t, "Election with a wrong algorithm", c, err)
			c, err = comm.Election(good, n)
			checkRefused(t, "Election with a wrong preference", c, err)
			c, err = comm.Election(n, n)
			checkRefused(t, "Election with wrong numbers", c, err)
		}
	}
	for _, alg := range []int{32, 33, 64, 255, 256, 288} {
		c, err := comm.Election(alg, 1)
		checkRefused(t, "Election with a wrong algorithm", c, err)
	}
}

// types are the numbers of the kinds by their types, as the chapter lists them.
var types = map[[2]byte]int{
	{0x00, 0x02}: 1,
	{0x03, 0x0c}: 2,
	{0x06, 0x00}: 3,
	{0x06, 0x01}: 4,
	{0x06, 0x02}: 5,
	{0x06, 0x03}: 6,
	{0x06, 0x06}: 7,
}

// P3.2: the kind is that of the first two bytes, whatever the others are; any other type has none.
func TestKind(t *testing.T) {
	rests := [][6]byte{{}, {1, 2, 3, 4, 5, 6}, {255, 255, 255, 255, 255, 255}, {0x06, 0x06, 0x03, 0x0c, 0x00, 0x02}}
	for high := range 256 {
		for low := range 256 {
			for _, r := range rests {
				c := api.Comm{byte(high), byte(low), r[0], r[1], r[2], r[3], r[4], r[5]}
				if got, want := comm.Kind(c), types[[2]byte{byte(high), byte(low)}]; got != want {
					t.Fatalf("Kind(% x) = %d, want %d", c, got, want)
				}
			}
		}
	}
}
