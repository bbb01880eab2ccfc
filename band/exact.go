package band

import (
	"math/bits"

	"verdigris/api"
)

// exact is the number of units x y / d, which is not rounded yet; d is above 0.
type exact struct{ x, y, d int }

// outward returns the tightest band of the number, and whether it is valid.
func (n exact) outward() (api.Band, bool) {
	below := (n.x < 0) != (n.y < 0)
	high, low := bits.Mul64(magnitude(n.x), magnitude(n.y))
	if high >= uint64(n.d) { // the quotient does not fit into a word
		return api.Band{}, false
	}
	quotient, rest := bits.Div64(high, low, uint64(n.d))
	if quotient > api.MaxBand {
		return api.Band{}, false
	}
	round := func(up bool) int {
		end := int(quotient)
		if rest > 0 && up != below { // away from 0
			end++
		}
		if below {
			return -end
		}
		return end
	}
	b := api.Band{Lo: round(false), Hi: round(true)}
	return b, Check(b) == api.OK
}

func magnitude(n int) uint64 {
	if n < 0 {
		return -uint64(n)
	}
	return uint64(n)
}

// tightest returns the tightest band of all numbers from the least to the greatest one of a list that is not empty, or ErrBig if it is not valid.
func tightest(list ...exact) (total api.Band, e api.Errno) {
numbers:
	for i, n := range list {
		b, ok := n.outward()
		switch {
		case !ok:
			total, e = api.Band{}, api.ErrBig
			break numbers
		case i == 0:
			total = b
		default:
			total = hull(total, b)
		}
	}
	return total, e
}
