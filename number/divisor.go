package number

import "math/bits"

// Common returns the greatest common divisor.
//
// The steps of Euclid's algorithm are made on the leading words alone for as long as these tell the quotients (Lehmer), so that long numbers are gone through once for many steps.
func (m Magnitude) Common(o Magnitude) Magnitude {
	a, b := m, o
	if a.Compare(b) < 0 {
		a, b = b, a
	}
	for len(b) > 1 {
		s := stepsOf(leading(a, b))
		if s.count == 0 {
			_, rest := a.Divide(b)
			a, b = b, rest
			continue
		}
		a, b = s.apply(a, b)
	}
	if b.IsZero() {
		return a
	}
	_, rest := a.divideByWord(b[0])
	return fromWord(commonOfWords(b[0], rest))
}

func commonOfWords(a, b uint64) uint64 {
	for b != 0 {
		a, b = b, a%b
	}
	return a
}

// leading returns the highest 64 bits of a, which has two words at least, and the bits of b, which is at most a, at the same places.
func leading(a, b Magnitude) (x, y uint64) {
	top := len(a) - 1
	shift := bits.LeadingZeros64(a[top])
	x = a[top]<<shift | a[top-1]>>(wordBits-shift)
	y = b.word(top)<<shift | b.word(top-1)>>(wordBits-shift)
	return x, y
}

// steps says what some steps of Euclid's algorithm make of two numbers a and b: their multiples fromA a - fromB b for the first and nextB b - nextA a for the second one, or the negatives of both after an odd count.
type steps struct {
	fromA, fromB, nextA, nextB uint64
	count                      int
}

// stepsOf makes the steps that are the same for all numbers that begin with the leading words x and y.
func stepsOf(x, y uint64) steps {
	s := steps{fromA: 1, nextB: 1}
	for y != 0 {
		q := x / y
		nextA, nextB := s.fromA+q*s.nextA, s.fromB+q*s.nextB
		rest := x - q*y
		if rest < nextB || y-rest < s.nextB+nextB { // what follows the leading words might change the quotient (Collins)
			break
		}
		s = steps{s.nextA, s.nextB, nextA, nextB, s.count + 1}
		x, y = y, rest
	}
	return s
}

func (s steps) apply(a, b Magnitude) (first, second Magnitude) {
	if s.count%2 == 1 {
		return multiples(b, a, s.fromB, s.fromA), multiples(a, b, s.nextA, s.nextB)
	}
	return multiples(a, b, s.fromA, s.fromB), multiples(b, a, s.nextB, s.nextA)
}

// multiples returns p times a less q times b, which is not below 0 and has no more words than the longer one.
func multiples(a, b Magnitude, p, q uint64) Magnitude {
	m := make(Magnitude, max(len(a), len(b)))
	var plus, minus, borrow uint64 // carries of both products, and of the difference
	for i := range m {
		var up, down uint64
		up, plus = multiply(a.word(i), p, plus)
		down, minus = multiply(b.word(i), q, minus)
		m[i], borrow = bits.Sub64(up, down, borrow)
	}
	return m.trim()
}

func multiply(w, factor, carry uint64) (low, high uint64) {
	high, low = bits.Mul64(w, factor)
	low, c := bits.Add64(low, carry, 0)
	return low, high + c
}
