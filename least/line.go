package least

import "verdigris/number"

// line is a row of whole numbers of any length, as the limit of their digits concerns results alone.
type line []number.Signed

// toWhole returns the numbers times the least number above 0 that makes all of them whole, and that number.
func toWhole(numbers ...number.Ratio) (l line, scale number.Signed) {
	scale = number.Of(1)
	for _, x := range numbers {
		under := x.Denominator()
		scale = scale.Part(scale.Divisor(under)).Times(under)
	}
	scaled := func(i int) number.Signed {
		return numbers[i].Signed.Times(scale.Part(numbers[i].Denominator()))
	}
	return list(len(numbers), scaled), scale
}

// at returns the elements at some places.
func (l line) at(places []int) line {
	return list(len(places), func(i int) number.Signed { return l[places[i]] })
}

// times returns the sum of the products of the elements and those of o at the same places.
func (l line) times(o line) number.Signed {
	return sum(number.Of(0), l, o)
}

// list returns n elements.
func list[T any](n int, element func(place int) T) []T {
	l := make([]T, n)
	for i := range l {
		l[i] = element(i)
	}
	return l
}

// factor is a number that can be added and multiplied.
type factor[T any] interface {
	Plus(o T) T
	Times(o T) T
}

// sum returns the total plus the products of the elements of l and those of o at the same places.
func sum[T factor[T]](total T, l, o []T) T {
	for i, x := range l {
		total = total.Plus(x.Times(o[i]))
	}
	return total
}
