package topo

import "leafmesh/api"

// wordBits is the number of bits of a word.
const wordBits = 64

// bitset is a set of numbers of links, or of nodes, of which there are fewer.
type bitset [api.MaxLinks / wordBits]uint64

// full returns the set of the first n numbers.
func full(n int) bitset {
	var s bitset
	for i := range n {
		s.put(i, true)
	}
	return s
}

// put puts a number into the set, or takes it out.
func (s *bitset) put(i int, in bool) {
	bit := uint64(1) << (i % wordBits)
	if in {
		s[i/wordBits] |= bit
	} else {
		s[i/wordBits] &^= bit
	}
}

// has reports whether a number is in the set.
func (s *bitset) has(i int) bool { return s[i/wordBits]>>(i%wordBits)&1 == 1 }

// list returns the numbers in the set, ascending.
func (s *bitset) list() []int {
	var numbers []int
	for i := range len(s) * wordBits {
		if s.has(i) {
			numbers = append(numbers, i)
		}
	}
	return numbers
}
