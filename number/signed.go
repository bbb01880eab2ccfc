package number

// Signed is a whole number: its magnitude, and whether it is below 0. So 0 is not Below.
type Signed struct {
	Magnitude
	Below bool
}

// signed returns the number of a magnitude that is below 0 unless it is 0.
func signed(m Magnitude, below bool) Signed {
	return Signed{m, below && !m.IsZero()}
}

// Of returns the number n.
func Of(n int) Signed {
	if n < 0 {
		return Signed{fromWord(-uint64(n)), true}
	}
	return Signed{fromWord(uint64(n)), false}
}

// Sign returns -1, 0 or 1.
func (s Signed) Sign() int {
	if s.IsZero() {
		return 0
	}
	return order(s.Below)
}

// Negative returns the number with the other sign.
func (s Signed) Negative() Signed {
	return signed(s.Magnitude, !s.Below)
}

// Order returns -1, 0 or 1 if the number is less than, equal to or greater than o.
func (s Signed) Order(o Signed) int {
	switch {
	case s.Below != o.Below:
		return order(s.Below)
	case s.Below:
		return o.Compare(s.Magnitude)
	}
	return s.Compare(o.Magnitude)
}

// Plus returns the sum.
func (s Signed) Plus(o Signed) Signed {
	switch {
	case s.Below == o.Below:
		return signed(s.Sum(o.Magnitude), s.Below)
	case s.Compare(o.Magnitude) < 0:
		return signed(o.Difference(s.Magnitude), o.Below)
	}
	return signed(s.Difference(o.Magnitude), s.Below)
}

// Minus returns the difference.
func (s Signed) Minus(o Signed) Signed {
	return s.Plus(o.Negative())
}

// Times returns the product.
func (s Signed) Times(o Signed) Signed {
	return signed(s.Product(o.Magnitude), s.Below != o.Below)
}

// Over returns the quotient and the rest of the division by o, which is not 0. The rest is not below 0 and less than the magnitude of o.
func (s Signed) Over(o Signed) (quotient, rest Signed) {
	q, r := s.Divide(o.Magnitude)
	if s.Below && !r.IsZero() {
		q = q.Sum(fromWord(1))
		r = o.Difference(r)
	}
	return signed(q, s.Below != o.Below), signed(r, false)
}

// Part returns the number divided by a divisor of it.
func (s Signed) Part(divisor Signed) Signed {
	quotient, _ := s.Over(divisor)
	return quotient
}

// Divisor returns the greatest common divisor, which is not below 0.
func (s Signed) Divisor(o Signed) Signed {
	return signed(s.Common(o.Magnitude), false)
}

// ToPower returns the n-th power, which is 1 for n 0; n is not negative.
func (s Signed) ToPower(n int) Signed {
	return signed(s.Power(n), s.Below && n%2 == 1)
}

// Text returns the number in decimal, and whether it has at most that many digits; if not, it returns none.
func (s Signed) Text(most int) (string, bool) {
	text, ok := s.Decimal(most)
	if ok && s.Below {
		text = "-" + text
	}
	return text, ok
}
