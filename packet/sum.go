package packet

import "iter"

// Sum returns a checksum.
func Sum(b []byte) uint16 {
	const low = 1<<16 - 1
	var sum uint32
	for n := range numbers(b) {
		sum += uint32(n)
		// A carry out of the 16 bits is added again.
		sum = sum&low + sum>>16
	}
	return ^uint16(sum)
}

// numbers visits the 16-bit numbers of b; the last one ends with a zero byte if the number of bytes is odd.
func numbers(b []byte) iter.Seq[uint16] {
	return func(yield func(uint16) bool) {
		for i := 0; i < len(b); i += 2 {
			n := uint16(b[i]) << 8
			if i+1 < len(b) {
				n |= uint16(b[i+1])
			}
			if !yield(n) {
				return
			}
		}
	}
}
