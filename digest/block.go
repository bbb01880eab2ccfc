package digest

import "iter"

// block is a block of octets as words, the least significant octet of each one first.
type block [16]uint32

// each hands the full blocks of s on, in order, and returns the octets behind them.
func each(s string, use func(b block)) string {
	for b := range blocks(s) {
		use(b)
	}
	return s[len(s)-len(s)%blockSize:]
}

// blocks yields the full blocks of s.
func blocks(s string) iter.Seq[block] {
	return func(yield func(b block) bool) {
		for rest := s; len(rest) >= blockSize; rest = rest[blockSize:] {
			if !yield(blockOf(rest[:blockSize])) {
				return
			}
		}
	}
}

func blockOf(octets string) block {
	var b block
	for i := range len(octets) {
		b[i/4] |= uint32(octets[i]) << (8 * (i % 4))
	}
	return b
}
