package comm

import (
	"bytes"
	"slices"

	"leafmesh/api"
)

// marked is a number with a flag, chosen an algorithm with a preference.
type (
	marked struct {
		flag   bool
		number uint32
	}
	chosen struct{ alg, pref int }
)

// Kind returns the kind of a community.
func Kind(c api.Comm) int {
	for _, k := range kinds {
		if c[0] == k.high && c[1] == k.low {
			return k.number
		}
	}
	return noKind
}

// Targets returns the numbers of the fabric's route targets.
func Targets(l []api.Comm) []uint32 {
	var out []uint32
	for _, c := range l {
		if x := content(c); Kind(c) == kindTarget && x>>firstAS == api.FabricAS {
			out = append(out, uint32(x))
		}
	}
	slices.Sort(out)
	return slices.Compact(out)
}

// EncapOf returns the tunnel type.
func EncapOf(l []api.Comm) (kind int, found bool) {
	return first(l, kindEncap, func(x uint64) int { return int(x & max16) })
}

// MobilityOf returns the sequence number.
func MobilityOf(l []api.Comm) (sticky bool, seq uint32, found bool) {
	m, found := first(l, kindMobility, readMarked(max32))
	return m.flag, m.number, found
}

// LabelOf returns the label of a segment.
func LabelOf(l []api.Comm) (single bool, label uint32, found bool) {
	m, found := first(l, kindLabel, readMarked(api.MaxVNI))
	return m.flag, m.number, found
}

// ImportOf returns the import target.
func ImportOf(l []api.Comm) (api.MAC, bool) { return first(l, kindImport, readMAC) }

// RouterOf returns the router address.
func RouterOf(l []api.Comm) (api.MAC, bool) { return first(l, kindRouter, readMAC) }

// ElectionOf returns the algorithm and the preference.
func ElectionOf(l []api.Comm) (alg, pref int, found bool) {
	e, found := first(l, kindElection, func(x uint64) chosen {
		return chosen{alg: int(x >> firstByte & maxAlgorithm), pref: int(x & max16)}
	})
	return e.alg, e.pref, found
}

// Sort returns communities in ascending order without duplicates.
func Sort(l []api.Comm) []api.Comm {
	out := slices.Clone(l)
	slices.SortFunc(out, func(a, b api.Comm) int { return bytes.Compare(a[:], b[:]) })
	return slices.Compact(out)
}

// first returns what decode reads from the content of the first community of a kind.
func first[T any](l []api.Comm, kind int, decode func(content uint64) T) (T, bool) {
	for _, c := range l {
		if Kind(c) == kind {
			return decode(content(c)), true
		}
	}
	var none T
	return none, false
}

// readMarked returns a decoding function for a flag in the first byte and a number in the bits of a mask.
func readMarked(mask uint64) func(uint64) marked {
	return func(x uint64) marked {
		return marked{flag: x>>firstByte&1 == 1, number: uint32(x & mask)}
	}
}

func readMAC(x uint64) api.MAC { return api.MAC(x) }

// content returns the content of a community.
func content(c api.Comm) uint64 {
	var x uint64
	for _, b := range c[typeSize:] {
		x = x<<8 | uint64(b)
	}
	return x
}
