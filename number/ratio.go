package number

import "verdigris/api"

// Ratio is a fraction of any length in lowest terms: its numerator, which has its sign, and its denominator, which is above 0.
type Ratio struct {
	Signed
	under Signed
}

// RatioOf returns the fraction n / 1.
func RatioOf(n int) Ratio {
	return Ratio{Of(n), Of(1)}
}

// Lowest returns the fraction n / d; d is not 0.
func Lowest(n, d Signed) Ratio {
	divisor := n.Divisor(d)
	if d.Below {
		divisor = divisor.Negative()
	}
	return Ratio{n.Part(divisor), d.Part(divisor)}
}

// ReadFrac returns the number of a fraction, and whether it is valid.
func ReadFrac(a api.Frac) (Ratio, bool) {
	n, ok := Read(string(a.N), api.MaxWhole)
	d, also := Read(string(a.D), api.MaxWhole)
	if !ok || !also || d.Sign() < 1 || n.Divisor(d).Order(Of(1)) != 0 {
		return Ratio{}, false
	}
	return Ratio{n, d}, true
}

// Frac returns the texts of the fraction, and whether none of them has too many digits; if one has, it returns none.
func (r Ratio) Frac() (api.Frac, bool) {
	n, ok := r.Signed.Text(api.MaxWhole)
	d, also := r.under.Text(api.MaxWhole)
	if !ok || !also {
		return api.Frac{}, false
	}
	return api.Frac{N: api.Whole(n), D: api.Whole(d)}, true
}

// Denominator returns the denominator, which is above 0.
func (r Ratio) Denominator() Signed {
	return r.under
}

// Order returns -1, 0 or 1 if the fraction is less than, equal to or greater than o.
func (r Ratio) Order(o Ratio) int {
	return r.Signed.Times(o.under).Order(o.Signed.Times(r.under))
}

// Negative returns the fraction with the other sign.
func (r Ratio) Negative() Ratio {
	return Ratio{r.Signed.Negative(), r.under}
}

// Absolute returns the fraction without its sign.
func (r Ratio) Absolute() Ratio {
	if r.Below {
		return r.Negative()
	}
	return r
}

// Plus returns the sum. Nothing cancels but a divisor of what both denominators share, so that long denominators which share little are not searched for more.
func (r Ratio) Plus(o Ratio) Ratio {
	shared := r.under.Divisor(o.under)
	mine, others := r.under.Part(shared), o.under.Part(shared)
	sum := r.Signed.Times(others).Plus(o.Signed.Times(mine))
	divisor := sum.Divisor(shared)
	return Ratio{sum.Part(divisor), mine.Times(o.under.Part(divisor))}
}

// Minus returns the difference.
func (r Ratio) Minus(o Ratio) Ratio {
	return r.Plus(o.Negative())
}

// Times returns the product.
func (r Ratio) Times(o Ratio) Ratio {
	return Lowest(r.Signed.Times(o.Signed), r.under.Times(o.under))
}

// Over returns the quotient by o, which is not 0.
func (r Ratio) Over(o Ratio) Ratio {
	return Lowest(r.Signed.Times(o.under), r.under.Times(o.Signed))
}

// ToPower returns the n-th power, which is 1 for n 0; n is not negative.
func (r Ratio) ToPower(n int) Ratio {
	return Ratio{r.Signed.ToPower(n), r.under.ToPower(n)}
}

// Floor returns the greatest whole number that is at most the fraction.
func (r Ratio) Floor() Signed {
	quotient, _ := r.Signed.Over(r.under)
	return quotient
}

// Nearest returns the nearest whole number of the fraction times a scale: the greatest one that is at most half above it.
func (r Ratio) Nearest(scale Signed) Signed {
	scaled := r.Signed.Times(scale)
	quotient, _ := scaled.Plus(scaled).Plus(r.under).Over(r.under.Plus(r.under))
	return quotient
}

// Total returns the sum of all terms, which is 0 of none. Each half of the list is summed up by itself, so that few of the sums on the way are long.
func Total(terms ...Ratio) Ratio {
	var gather func(from, to int) Ratio
	gather = func(from, to int) Ratio {
		switch to - from {
		case 0:
			return RatioOf(0)
		case 1:
			return terms[from]
		}
		middle := (from + to) / 2
		return gather(from, middle).Plus(gather(middle, to))
	}
	return gather(0, len(terms))
}
