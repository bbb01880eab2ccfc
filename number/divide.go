package number

import (
	"math"
	"math/bits"
)

// Divide returns the quotient, rounded down, and the rest of the division by o, which is not 0.
func (m Magnitude) Divide(o Magnitude) (quotient, rest Magnitude) {
	switch {
	case m.Compare(o) < 0:
		return nil, m
	case len(o) == 1:
		quotient, r := m.divideByWord(o[0])
		return quotient, fromWord(r)
	}
	shift := bits.LeadingZeros64(o[len(o)-1]) // with its highest bit set, the divisor's first word alone tells its multiples well
	left := m.raised(shift)
	divisor := o.raised(shift)[:len(o)]
	quotient = make(Magnitude, len(m)-len(o)+1)
	for i := len(quotient) - 1; i >= 0; i-- {
		quotient[i] = takeMultiples(left[i:i+len(o)+1], divisor)
	}
	return quotient.trim(), left.lowered(shift)
}

func (m Magnitude) divideByWord(o uint64) (quotient Magnitude, rest uint64) {
	quotient = make(Magnitude, len(m))
	for i := len(m) - 1; i >= 0; i-- {
		quotient[i], rest = bits.Div64(rest, m[i], o)
	}
	return quotient.trim(), rest
}

// raised returns the number times 2 to the power of shift, which is less than 64, with one word more than the number, which may be 0.
func (m Magnitude) raised(shift int) Magnitude {
	r := make(Magnitude, len(m)+1)
	for i, w := range m {
		r[i] |= w << shift
		r[i+1] = w >> (wordBits - shift)
	}
	return r
}

// lowered returns the number divided by 2 to the power of shift, which is less than 64, rounded down.
func (m Magnitude) lowered(shift int) Magnitude {
	l := make(Magnitude, len(m))
	for i, w := range m {
		l[i] = w>>shift | m.word(i+1)<<(wordBits-shift)
	}
	return l.trim()
}

// takeMultiples takes o from left as often as possible, and returns how often, which is less than 2^64. The highest bit of o is set, and left has one word more.
func takeMultiples(left, o Magnitude) uint64 {
	n := len(o)
	times := uint64(math.MaxUint64)
	if left[n] < o[n-1] {
		times, _ = bits.Div64(left[n], left[n-1], o[n-1])
	}
	for below := takeMultiple(left, o, times); below; below = !putBack(left, o) {
		times-- // at most twice, as the highest bit of o is set
	}
	return times
}

// takeMultiple takes o from left that many times, and reports whether the result is below 0; then left is the result plus a power of 2 beyond its words.
func takeMultiple(left, o Magnitude, times uint64) bool {
	var carry, borrow uint64
	for i, w := range o {
		high, low := bits.Mul64(w, times)
		low, c := bits.Add64(low, carry, 0)
		carry = high + c
		left[i], borrow = bits.Sub64(left[i], low, borrow)
	}
	left[len(o)], borrow = bits.Sub64(left[len(o)], carry, borrow)
	return borrow == 1
}

// putBack adds o to left, which is below 0, and reports whether it is not any longer.
func putBack(left, o Magnitude) bool {
	carry := uint64(0)
	for i, w := range o {
		left[i], carry = bits.Add64(left[i], w, carry)
	}
	left[len(o)], carry = bits.Add64(left[len(o)], 0, carry)
	return carry == 1
}
