package matrix

import (
	"verdigris/api"
	"verdigris/band"
)

// sum returns a total to which the products of the elements of two lists, which are as many, have been added from the left.
func sum[T, A, B any](total T, l []A, o []B, plusProduct func(total T, x A, y B) T) T {
	for i, x := range l {
		total = plusProduct(total, x, o[i])
	}
	return total
}

// bandSum is a sum of bands, or the first error on the way to it.
type bandSum struct {
	total api.Band
	e     api.Errno
}

// plusProduct returns the sum with the product of the band around a and of b.
func (s bandSum) plusProduct(a api.Frac, b api.Band) bandSum {
	if s.e != api.OK {
		return s
	}
	around, e := band.Around(a)
	if e != api.OK {
		return bandSum{e: e}
	}
	product, e := band.Mul(around, b)
	if e != api.OK {
		return bandSum{e: e}
	}
	total, e := band.Add(s.total, product)
	return bandSum{total, e}
}
