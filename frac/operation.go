package frac

import (
	"verdigris/api"
	"verdigris/number"
)

// apply returns the result of an operation on one fraction.
func apply[T any](a api.Frac, operation func(ratio) T) (result T, e api.Errno) {
	x, e := read(a)
	if e != api.OK {
		return result, e
	}
	return operation(x), api.OK
}

// combine returns the result of an operation on two fractions.
func combine[T any](a, b api.Frac, operation func(x, y ratio) T) (result T, e api.Errno) {
	l, e := readAll(a, b)
	if e != api.OK {
		return result, e
	}
	return operation(l[0], l[1]), api.OK
}

// finish returns the fraction that an operation has led to, or its error.
func finish(x ratio, e api.Errno) (api.Frac, api.Errno) {
	if e != api.OK {
		return api.Frac{}, e
	}
	return write(x)
}

// read returns the number of a fraction, or ErrFrac if it is not valid.
func read(a api.Frac) (ratio, api.Errno) {
	n, ok := readWhole(a.N)
	d, also := readWhole(a.D)
	if !ok || !also || d.Sign() < 1 || n.Divisor(d).Order(number.Of(1)) != 0 {
		return ratio{}, api.ErrFrac
	}
	return ratio{n, d}, api.OK
}

func readAll(l ...api.Frac) ([]ratio, api.Errno) {
	all := make([]ratio, len(l))
	for i, a := range l {
		x, e := read(a)
		if e != api.OK {
			return nil, e
		}
		all[i] = x
	}
	return all, api.OK
}

func readWhole(a api.Whole) (number.Signed, bool) {
	return number.Read(string(a), api.MaxWhole)
}

// write returns the texts of a fraction, or ErrBig if one of them has too many digits.
func write(x ratio) (api.Frac, api.Errno) {
	n, e := writeWhole(x.Signed)
	if e != api.OK {
		return api.Frac{}, e
	}
	d, e := writeWhole(x.under)
	if e != api.OK {
		return api.Frac{}, e
	}
	return api.Frac{N: n, D: d}, api.OK
}

func writeWhole(n number.Signed) (api.Whole, api.Errno) {
	text, ok := n.Text(api.MaxWhole)
	if !ok {
		return "", api.ErrBig
	}
	return api.Whole(text), api.OK
}
