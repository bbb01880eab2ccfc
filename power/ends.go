package power

import (
	"iter"

	"verdigris/api"
	"verdigris/band"
	"verdigris/number"
)

// power is the power of all numbers of a band, none of which is below 0.
type power struct {
	exponents
	base api.Band
}

func (w power) ends() (api.Band, api.Errno) {
	return tightest(w.base.Lo, w.base.Hi, w.units)
}

// tightest returns the tightest band of the results from that of low to that of high, or ErrBig if it is not valid. A result comes as a number of units, rounded down, and whether it is exact.
func tightest[T any](low, high T, result func(T) (below number.Magnitude, exact bool)) (api.Band, api.Errno) {
	least, _ := result(low)
	greatest, exact := result(high)
	if !exact {
		greatest = greatest.Sum(number.Of(1).Magnitude)
	}
	hi, ok := greatest.Int(api.MaxBand)
	if !ok {
		return api.Band{}, api.ErrBig
	}
	lo, _ := least.Int(api.MaxBand) // the other end is no less
	return band.Of(lo, hi)
}

// squares returns the sums of the squares of the least and of the greatest absolute values of the bands.
func squares(l []api.Band) (least, greatest number.Signed, e api.Errno) {
	for size, e := range sizes(l) {
		if e != api.OK {
			return number.Signed{}, number.Signed{}, e
		}
		least = least.Plus(square(size.Lo))
		greatest = greatest.Plus(square(size.Hi))
	}
	return least, greatest, api.OK
}

// sizes yields the absolute values of the bands, with an error for one that is not valid.
func sizes(l []api.Band) iter.Seq2[api.Band, api.Errno] {
	return func(yield func(api.Band, api.Errno) bool) {
		for _, b := range l {
			if !yield(band.Abs(b)) {
				return
			}
		}
	}
}

func square(n int) number.Signed {
	return number.Of(n).ToPower(2)
}
