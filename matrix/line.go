package matrix

import (
	"slices"

	"verdigris/api"
	"verdigris/number"
)

// line is a row or a column of numbers of any length, as the limit of their digits concerns results alone.
type line []number.Ratio

// readLine returns the numbers of fractions, all of which are valid.
func readLine(l []api.Frac) line {
	numbers := make(line, len(l))
	for i, a := range l {
		numbers[i], _ = number.ReadFrac(a)
	}
	return numbers
}

// times returns the sum of the products of the elements of both lines, which are as many.
func (l line) times(o line) number.Ratio {
	return sum(number.RatioOf(0), l, o, func(total, x, y number.Ratio) number.Ratio {
		return total.Plus(x.Times(y))
	})
}

// over returns the line with all elements divided by x, which is not 0.
func (l line) over(x number.Ratio) line {
	changed := slices.Clone(l)
	for i, y := range l {
		changed[i] = y.Over(x)
	}
	return changed
}

// minus returns the line less x times another one.
func (l line) minus(x number.Ratio, o line) line {
	changed := slices.Clone(l)
	for i, y := range o {
		changed[i] = changed[i].Minus(x.Times(y))
	}
	return changed
}
