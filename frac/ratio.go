package frac

import "verdigris/number"

// ratio is a fraction of any length in lowest terms: its numerator, which has its sign, and its denominator, which is above 0.
type ratio struct {
	number.Signed
	under number.Signed
}

// lowest returns the fraction n / d; d is not 0.
func lowest(n, d number.Signed) ratio {
	divisor := n.Divisor(d)
	if d.Below {
		divisor = divisor.Negative()
	}
	return ratio{part(n, divisor), part(d, divisor)}
}

// part returns n divided by a divisor of it.
func part(n, divisor number.Signed) number.Signed {
	quotient, _ := n.Over(divisor)
	return quotient
}

// Order returns -1, 0 or 1 if the fraction is less than, equal to or greater than o.
func (r ratio) Order(o ratio) int {
	return r.Signed.Times(o.under).Order(o.Signed.Times(r.under))
}

// Negative returns the fraction with the other sign.
func (r ratio) Negative() ratio {
	return ratio{r.Signed.Negative(), r.under}
}

// Absolute returns the fraction without its sign.
func (r ratio) Absolute() ratio {
	if r.Below {
		return r.Negative()
	}
	return r
}

// Plus returns the sum. Nothing cancels but a divisor of what both denominators share, so that long denominators which share little are not searched for more.
func (r ratio) Plus(o ratio) ratio {
	shared := r.under.Divisor(o.under)
	mine, others := part(r.under, shared), part(o.under, shared)
	sum := r.Signed.Times(others).Plus(o.Signed.Times(mine))
	divisor := sum.Divisor(shared)
	return ratio{part(sum, divisor), mine.Times(part(o.under, divisor))}
}

// Minus returns the difference.
func (r ratio) Minus(o ratio) ratio {
	return r.Plus(o.Negative())
}

// Times returns the product.
func (r ratio) Times(o ratio) ratio {
	return lowest(r.Signed.Times(o.Signed), r.under.Times(o.under))
}

// Over returns the quotient by o, which is not 0.
func (r ratio) Over(o ratio) ratio {
	return lowest(r.Signed.Times(o.under), r.under.Times(o.Signed))
}

// ToPower returns the n-th power, which is 1 for n 0; n is not negative.
func (r ratio) ToPower(n int) ratio {
	return ratio{r.Signed.ToPower(n), r.under.ToPower(n)}
}

// Floor returns the greatest whole number that is at most the fraction.
func (r ratio) Floor() number.Signed {
	quotient, _ := r.Signed.Over(r.under)
	return quotient
}

// Nearest returns the nearest whole number of the fraction times a scale: the greatest one that is at most half above it.
func (r ratio) Nearest(scale number.Signed) number.Signed {
	scaled := r.Signed.Times(scale)
	quotient, _ := scaled.Plus(scaled).Plus(r.under).Over(r.under.Plus(r.under))
	return quotient
}

// total returns the sum of all terms, which is 0 of none. Each half of the list is summed up by itself, so that few of the sums on the way are long.
func total(terms ...ratio) ratio {
	var gather func(from, to int) ratio
	gather = func(from, to int) ratio {
		switch to - from {
		case 0:
			return ratio{number.Of(0), number.Of(1)}
		case 1:
			return terms[from]
		}
		middle := (from + to) / 2
		return gather(from, middle).Plus(gather(middle, to))
	}
	return gather(0, len(terms))
}
