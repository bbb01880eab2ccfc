// Package number computes with whole numbers and fractions of any length. It is no layer: the layers share it, as the numbers on their way to a result have more digits than api.MaxWhole.
package number

import "math/bits"

// Magnitude is a number that is not negative: its words, the lowest one first. The highest word is not 0, and 0 has no words, so equal numbers have equal words.
type Magnitude []uint64

const wordBits = 64

// fromWord returns the number of one word.
func fromWord(w uint64) Magnitude {
	return Magnitude{w}.trim()
}

func (m Magnitude) trim() Magnitude {
	n := len(m)
	for n > 0 && m[n-1] == 0 {
		n--
	}
	return m[:n]
}

// word returns the word at an index, which may lie above the highest one.
func (m Magnitude) word(i int) uint64 {
	if i < len(m) {
		return m[i]
	}
	return 0
}

// IsZero reports whether the number is 0.
func (m Magnitude) IsZero() bool {
	return len(m) == 0
}

// length returns the number of binary digits, which is 0 for 0.
func (m Magnitude) length() int {
	if m.IsZero() {
		return 0
	}
	top := len(m) - 1
	return top*wordBits + bits.Len64(m[top])
}

// Int returns the number as an integer, and whether it is at most that one; if not, it returns none.
func (m Magnitude) Int(most int) (int, bool) {
	if len(m) > 1 || m.word(0) > uint64(most) {
		return 0, false
	}
	return int(m.word(0)), true
}

// Compare returns -1, 0 or 1 if the number is less than, equal to or greater than o.
func (m Magnitude) Compare(o Magnitude) int {
	if len(m) != len(o) {
		return order(len(m) < len(o))
	}
	for i := len(m) - 1; i >= 0; i-- {
		if m[i] != o[i] {
			return order(m[i] < o[i])
		}
	}
	return 0
}

func order(less bool) int {
	if less {
		return -1
	}
	return 1
}

// Sum returns the sum.
func (m Magnitude) Sum(o Magnitude) Magnitude {
	if len(m) < len(o) {
		m, o = o, m
	}
	sum := make(Magnitude, len(m)+1)
	carry := uint64(0)
	for i, w := range m {
		sum[i], carry = bits.Add64(w, o.word(i), carry)
	}
	sum[len(m)] = carry
	return sum.trim()
}

// Difference returns the number less o, which is at most the number.
func (m Magnitude) Difference(o Magnitude) Magnitude {
	difference := make(Magnitude, len(m))
	borrow := uint64(0)
	for i, w := range m {
		difference[i], borrow = bits.Sub64(w, o.word(i), borrow)
	}
	return difference.trim()
}

// Product returns the product.
func (m Magnitude) Product(o Magnitude) Magnitude {
	product := make(Magnitude, len(m)+len(o))
	for i, w := range m {
		product[i+len(o)] = addMultiple(product[i:i+len(o)], o, w)
	}
	return product.trim()
}

// addMultiple adds w times o to the words of sum, which are as many as those of o, and returns the word that is carried out of them.
func addMultiple(sum, o Magnitude, w uint64) uint64 {
	carry := uint64(0)
	for i, v := range o {
		high, low := bits.Mul64(v, w)
		low, c := bits.Add64(low, sum[i], 0)
		high += c
		sum[i], c = bits.Add64(low, carry, 0)
		carry = high + c
	}
	return carry
}
