package vxlan_test

import (
	"bytes"
	"encoding/binary"
	"hash/fnv"
	"math"
	"math/rand/v2"
	"testing"

	"leafmesh/api"
	"leafmesh/vxlan"
)

// modelHash says what Hash must return: the hash of the chapter is one that the library has.
func modelHash(b []byte) uint32 {
	h := fnv.New32a()
	h.Write(b)
	return h.Sum32()
}

// modelFlow returns the flow of a frame.
func modelFlow(f api.Frame) []byte {
	order := binary.BigEndian
	if f.Kind == 2 {
		b := order.AppendUint32(order.AppendUint32(nil, uint32(f.IP.Src)), uint32(f.IP.Dst))
		b = append(b, byte(f.IP.Proto))
		return order.AppendUint16(order.AppendUint16(b, uint16(f.IP.SrcPort)), uint16(f.IP.DstPort))
	}
	b := append(order.AppendUint64(nil, uint64(f.Src))[2:], order.AppendUint64(nil, uint64(f.Dst))[2:]...)
	return append(b, byte(f.Kind))
}

// checkHash fails the test unless Hash returns what the model says, without changing its argument.
func checkHash(t *testing.T, b []byte) {
	t.Helper()
	before := bytes.Clone(b)
	if got, want := vxlan.Hash(b), modelHash(before); got != want {
		t.Errorf("Hash of %d bytes % .60x = %d, want %d", len(b), before, got, want)
	}
	if !bytes.Equal(b, before) {
		t.Errorf("Hash changed % .60x to % .60x", before, b)
	}
}

// checkEntropy fails the test unless Entropy returns what the model says, and a port of its range. It returns that.
func checkEntropy(t *testing.T, f api.Frame) int {
	t.Helper()
	got, want := vxlan.Entropy(f), 49152+int(modelHash(modelFlow(f))%16384)
	if got != want || got < 49152 || got > 65535 {
		t.Errorf("Entropy(%+v) = %d, want %d", f, got, want)
	}
	return got
}

// P8.3: the hash of bytes.
func TestHash(t *testing.T) {
	for s, want := range map[string]uint32{
		"":         2166136261,
		"\x00":     84696351,
		"a":        0xe40c292c,
		"foobar":   0xbf9cf968,
		"leafmesh": 0x986f146c,
		"\xff":     0x7a0b824e,
		"\x00\x00": 0x117697cd,
	} {
		if got := vxlan.Hash([]byte(s)); got != want {
			t.Errorf("Hash(% x) = %d, want %d", s, got, want)
		}
		checkHash(t, []byte(s))
	}
	if got := vxlan.Hash(nil); got != 2166136261 {
		t.Errorf("Hash(nil) = %d", got)
	}
}

// P8.3: the hash of each one and two bytes, and of many; the order counts, and what lies behind the bytes does not.
func TestHashBytes(t *testing.T) {
	for n := range 1 << 16 {
		b := []byte{byte(n >> 8), byte(n), 0x80}
		checkHash(t, b[:2])
		checkHash(t, b)
		checkHash(t, b[1:2])
		if b[0] != b[1] && vxlan.Hash(b[:2]) == vxlan.Hash([]byte{b[1], b[0]}) {
			t.Errorf("% x hashes to the same, turned around", b[:2])
		}
	}
	r := rand.New(rand.NewPCG(8, 4))
	for range 20000 {
		b := make([]byte, r.IntN(60))
		for i := range b {
			b[i] = pick(r, 0, 0x7f, 0x80, 0xc3, 0xff, byte(r.Uint32()))
		}
		checkHash(t, b)
		checkHash(t, b[:len(b)/2])
	}
	checkHash(t, make([]byte, 1<<20))
	checkHash(t, bytes.Repeat([]byte("\xff\xc3\xa9"), 1<<18))
}

// P8.3: the entropies of some frames.
func TestEntropy(t *testing.T) {
	for _, x := range []struct {
		f    api.Frame
		want int
	}{
		{api.Frame{}, 58095},
		{plain, 50858},
		{api.Frame{Src: 0x020000000001, Dst: api.Broadcast, Kind: 1, ARP: api.ARP{Op: 1}}, 51261},
		{api.Frame{Src: 0x121314151617, Dst: 0x212223242526}, 59167},
		{asked, 58764},
		{api.Frame{Src: 0x121314151617, Dst: 0x212223242526, Kind: -1}, 52302},
		{api.Frame{Kind: 2}, 58095},
		{ping, 54023},
		{ported, 59416},
	} {
		if got := checkEntropy(t, x.f); got != x.want {
			t.Errorf("Entropy(%+v) = %d, want %d", x.f, got, x.want)
		}
	}
}

// P8.3: each bit of a field of the flow counts, up to the bytes that the field has there.
func TestEntropyBits(t *testing.T) {
	for _, f := range []api.Frame{{}, plain, asked, ping, ported, {Kind: 3}, {Kind: 2, ARP: ported.ARP, IP: ported.IP}} {
		for bit := range 64 {
			n := 1 << bit
			for _, change := range []func(*api.Frame){
				func(f *api.Frame) { f.Src ^= api.MAC(n) },
				func(f *api.Frame) { f.Dst ^= api.MAC(n) },
				func(f *api.Frame) { f.Kind ^= n },
				func(f *api.Frame) { f.IP.Src ^= api.IP(n) },
				func(f *api.Frame) { f.IP.Dst ^= api.IP(n) },
				func(f *api.Frame) { f.IP.Proto ^= n },
				func(f *api.Frame) { f.IP.SrcPort ^= n },
				func(f *api.Frame) { f.IP.DstPort ^= n },
			} {
				other := f
				change(&other)
				checkEntropy(t, other)
			}
		}
	}
}

// P8.3: a field that does not fit is represented by its lowest bytes.
func TestEntropyCut(t *testing.T) {
	same := func(f, other api.Frame) {
		t.Helper()
		if got, want := checkEntropy(t, other), checkEntropy(t, f); got != want {
			t.Errorf("Entropy(%+v) = %d, but %d of %+v", other, got, want, f)
		}
	}
	for bit := 48; bit < 64; bit++ {
		same(api.Frame{Src: 5}, api.Frame{Src: 5 | 1<<bit})
		same(api.Frame{Dst: 5}, api.Frame{Dst: 5 | 1<<bit})
	}
	for _, high := range []int{1 << 16, 1 << 32, math.MinInt, -1 << 16} {
		same(api.Frame{Src: 5, Kind: 1}, api.Frame{Src: 5, Kind: high + 1})
		same(api.Frame{Src: 5, Kind: 7}, api.Frame{Src: 5, Kind: high + 7})
		same(api.Frame{Kind: 2, IP: api.Head{Proto: 17}}, api.Frame{Kind: 2, IP: api.Head{Proto: high + 17}})
		same(api.Frame{Kind: 2, IP: api.Head{SrcPort: 17}}, api.Frame{Kind: 2, IP: api.Head{SrcPort: high + 17}})
		same(api.Frame{Kind: 2, IP: api.Head{DstPort: 17}}, api.Frame{Kind: 2, IP: api.Head{DstPort: high + 17}})
	}
	same(api.Frame{Kind: 2, IP: api.Head{Proto: 255, SrcPort: 65535, DstPort: 65535}}, api.Frame{Kind: 2, IP: api.Head{Proto: -1, SrcPort: -1, DstPort: -1}})
	same(api.Frame{Src: api.Broadcast, Dst: api.Broadcast, Kind: 255}, api.Frame{Src: math.MaxUint64, Dst: math.MaxUint64, Kind: -1})
	// A kind with the last byte of FrameIP is another one nevertheless: its addresses count.
	for _, kind := range []int{256 + 2, -254, 1<<32 + 2, math.MinInt + 2} {
		f := api.Frame{Src: 0x121314151617, Dst: 0x212223242526, Kind: kind, IP: ported.IP}
		other := f
		other.IP = api.Head{}
		same(f, other)
		other.Dst++
		if checkEntropy(t, f) == checkEntropy(t, other) {
			t.Errorf("the kind %d has no addresses", kind)
		}
	}
}

// P8.3: Entropy says what the model says of any frame, and takes many values.
func TestEntropyModel(t *testing.T) {
	r := rand.New(rand.NewPCG(8, 5))
	number := func() int {
		return pick(r, math.MinInt, -1, 0, 1, 2, 3, 6, 17, 255, 256, 258, 65535, 65536, 1<<32+2, math.MaxInt, r.Int(), -r.Int())
	}
	taken := map[int]bool{}
	for range 100000 {
		f := validFrame(r)
		taken[checkEntropy(t, f)] = true
		f.Kind = number()
		f.Src, f.Dst = api.MAC(r.Uint64()), api.MAC(r.Uint64())
		f.IP = api.Head{Src: address(r), Dst: address(r), TTL: number(), Proto: number(), SrcPort: number(), DstPort: number()}
		checkEntropy(t, f)
	}
	if len(taken) < 10000 {
		t.Errorf("only %d ports", len(taken))
	}
}

// P8.5: frames that differ only in Data have the same Entropy, and so have IP frames that differ in Data, TTL, Src and Dst.
func TestSameFlow(t *testing.T) {
	r := rand.New(rand.NewPCG(8, 6))
	for range 50000 {
		f := mixedPacket(r).Inner
		other := f
		other.Data = pick(r, 0, f.Data+1, r.Uint64())
		if f.Kind == 2 {
			other.IP.TTL = pick(r, -1, 0, f.IP.TTL-1, r.Int())
			other.Src, other.Dst = pick(r, f.Src, api.MAC(r.Uint64())), pick(r, f.Dst, api.MAC(r.Uint64()))
		}
		if got, want := vxlan.Entropy(other), vxlan.Entropy(f); got != want {
			t.Errorf("Entropy(%+v) = %d, but %d of %+v", other, got, want, f)
		}
	}
}
