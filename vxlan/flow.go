package vxlan

import (
	"leafmesh/api"
	"leafmesh/wire"
)

// What a hash starts with, and what it is multiplied by: those of FNV-1a with 32 bits.
const (
	hashStart uint32 = 2166136261
	hashPrime uint32 = 16777619
)

// firstPort is the first one of the ports of flows, ports their number.
const (
	firstPort = 49152
	ports     = 16384
)

// flowSize is the number of bytes of a flow.
const flowSize = 13

// octets is bytes, as a slice or as a string.
type octets interface{ ~[]byte | ~string }

// Hash returns the hash of bytes.
func Hash(b []byte) uint32 { return hash(b) }

// Entropy returns the source port of a frame's flow.
func Entropy(f api.Frame) int { return firstPort + int(hash(flow(f))%ports) }

// hash returns the hash of bytes.
func hash[B octets](b B) uint32 {
	h := hashStart
	// Ranging over the bytes themselves would take a string apart into runes.
	for i := range len(b) {
		h = (h ^ uint32(b[i])) * hashPrime
	}
	return h
}

// flow returns the flow of a frame. The frame may be invalid, so that each field is cut to its bytes.
func flow(f api.Frame) string {
	w, _ := wire.NewWriter(flowSize)
	if f.Kind == api.FrameIP {
		w.U32(uint64(f.IP.Src))
		w.U32(uint64(f.IP.Dst))
		w.U8(uint64(uint8(f.IP.Proto)))
		w.U16(uint64(uint16(f.IP.SrcPort)))
		w.U16(uint64(uint16(f.IP.DstPort)))
	} else {
		w.U48(uint64(f.Src & api.MaxMAC))
		w.U48(uint64(f.Dst & api.MaxMAC))
		w.U8(uint64(uint8(f.Kind)))
	}
	return string(w.Out())
}
