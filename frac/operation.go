package frac

import (
	"verdigris/api"
	"verdigris/number"
)

// apply returns the result of an operation on one fraction.
func apply[T any](a api.Frac, operation func(number.Ratio) T) (result T, e api.Errno) {
	x, e := read(a)
	if e != api.OK {
		return result, e
	}
	return operation(x), api.OK
}

// combine returns the result of an operation on two fractions.
func combine[T any](a, b api.Frac, operation func(x, y number.Ratio) T) (result T, e api.Errno) {
	l, e := readAll(a, b)
	if e != api.OK {
		return result, e
	}
	return operation(l[0], l[1]), api.OK
}

// finish returns the fraction that an operation has led to, or its error.
func finish(x number.Ratio, e api.Errno) (api.Frac, api.Errno) {
	if e != api.OK {
		return api.Frac{}, e
	}
	return write(x)
}

// read returns the number of a fraction, or ErrFrac if it is not valid.
func read(a api.Frac) (number.Ratio, api.Errno) {
	x, ok := number.ReadFrac(a)
	if !ok {
		return number.Ratio{}, api.ErrFrac
	}
	return x, api.OK
}

func readAll(l ...api.Frac) ([]number.Ratio, api.Errno) {
	all := make([]number.Ratio, len(l))
	for i, a := range l {
		x, e := read(a)
		if e != api.OK {
			return nil, e
		}
		all[i] = x
	}
	return all, api.OK
}

func readWhole(a api.Whole) (number.Signed, bool) {
	return number.Read(string(a), api.MaxWhole)
}

// write returns the texts of a fraction, or ErrBig if one of them has too many digits.
func write(x number.Ratio) (api.Frac, api.Errno) {
	a, ok := x.Frac()
	if !ok {
		return api.Frac{}, api.ErrBig
	}
	return a, api.OK
}

func writeWhole(n number.Signed) (api.Whole, api.Errno) {
	text, ok := n.Text(api.MaxWhole)
	if !ok {
		return "", api.ErrBig
	}
	return api.Whole(text), api.OK
}
