package digest

import "math/bits"

// words are the four numbers of a digest.
type words [4]uint32

// wordsOf returns the numbers modulo 2^32.
func wordsOf(numbers [4]int) words {
	var w words
	for i, n := range numbers {
		w[i] = uint32(n)
	}
	return w
}

func (w words) numbers() [4]int {
	var numbers [4]int
	for i, n := range w {
		numbers[i] = int(n)
	}
	return numbers
}

func (w words) octets() [16]byte {
	var octets [16]byte
	for i, n := range w {
		copy(octets[4*i:], appendLittle(nil, int(n), 4))
	}
	return octets
}

// change changes the numbers by a block.
func (w *words) change(data block) {
	changed := *w
	for i, r := range rounds() {
		for j := range roundSteps {
			changed = changed.step(r, roundSteps*i+j, data)
		}
	}
	for i, n := range changed {
		w[i] += n
	}
}

// step returns the numbers after the step i of a block, which belongs to the round r.
func (w words) step(r round, i int, data block) words {
	a, b, c, d := w[0], w[1], w[2], w[3]
	sum := a + r.mix(b, c, d) + constants[i] + data[r.word(i)]
	return words{d, b + bits.RotateLeft32(sum, r.rotations[i%len(r.rotations)]), b, c}
}
