package power

import (
	"verdigris/api"
	"verdigris/number"
	"verdigris/whole"
)

// exponents stand for the q-th root of the p-th power.
type exponents struct{ p, q int }

// lowest returns the exponents of the same powers without a common divisor. Then a fraction has a rational power only if its q-th root is rational, so that no power need be formed to find out.
func lowest(p, q int) exponents {
	divisor, rest := p, q
	for rest > 0 {
		divisor, rest = rest, divisor%rest
	}
	return exponents{p / divisor, q / divisor}
}

// units returns the power of a number of units as a number of units, rounded down, and whether it is exact.
func (x exponents) units(n int) (below number.Magnitude, exact bool) {
	one := number.Of(api.OneBand)
	raised := number.Of(n).ToPower(x.p).Times(one.ToPower(x.q)) // n units are n / one, and the result times one is wanted
	radicand, rest := raised.Over(one.ToPower(x.p))
	below, exact = rounded(radicand, x.q)
	return below, exact && rest.IsZero()
}

// rounded returns the root of a number that is not below 0, rounded down, and whether it is exact.
func rounded(radicand number.Signed, degree int) (root number.Magnitude, exact bool) {
	root = radicand.Root(degree)
	return root, root.Power(degree).Compare(radicand.Magnitude) == 0
}

// rational returns the q-th root of a fraction that is not below 0, and whether there is such a fraction.
func (x exponents) rational(a api.Frac) (api.Frac, bool) {
	n, ok := x.wholeRoot(a.N)
	d, also := x.wholeRoot(a.D)
	return api.Frac{N: n, D: d}, ok && also
}

// wholeRoot returns the q-th root of a number that is not below 0, rounded down, and whether it is exact.
func (x exponents) wholeRoot(a api.Whole) (api.Whole, bool) {
	root, _ := whole.Root(a, x.q)
	back, _ := whole.Pow(root, x.q)
	return root, back == a
}
