// Package whole is layer 1: whole numbers of up to api.MaxWhole digits, which are texts.
package whole

import (
	"strconv"

	"verdigris/api"
	"verdigris/number"
)

// Check returns ErrWhole for an invalid number.
func Check(a api.Whole) api.Errno {
	_, e := read(a)
	return e
}

// Of returns the whole number n.
func Of(n int) api.Whole {
	return api.Whole(strconv.Itoa(n))
}

// Int returns a as an integer, or ErrBig if none is as great.
func Int(a api.Whole) (int, api.Errno) {
	if e := Check(a); e != api.OK {
		return 0, e
	}
	n, err := strconv.Atoi(string(a))
	if err != nil {
		return 0, api.ErrBig
	}
	return n, api.OK
}

// Sign returns -1, 0 or 1.
func Sign(a api.Whole) (int, api.Errno) {
	x, e := read(a)
	return x.Sign(), e
}

// Cmp returns -1, 0 or 1 if a is less than, equal to or greater than b.
func Cmp(a, b api.Whole) (int, api.Errno) {
	x, y, e := readBoth(a, b)
	return x.Order(y), e
}

// Neg returns the negative value.
func Neg(a api.Whole) (api.Whole, api.Errno) {
	x, e := read(a)
	if e != api.OK {
		return "", e
	}
	return write(x.Negative())
}

// Abs returns the absolute value.
func Abs(a api.Whole) (api.Whole, api.Errno) {
	x, e := read(a)
	if e != api.OK {
		return "", e
	}
	return write(number.Signed{Magnitude: x.Magnitude})
}

// Add returns the sum.
func Add(a, b api.Whole) (api.Whole, api.Errno) {
	return combine(sum, a, b)
}

// Sub returns the difference.
func Sub(a, b api.Whole) (api.Whole, api.Errno) {
	return combine(difference, a, b)
}

// Mul returns the product.
func Mul(a, b api.Whole) (api.Whole, api.Errno) {
	return combine(product, a, b)
}

// Div returns the quotient, and the remainder, which is not negative.
func Div(a, b api.Whole) (q, r api.Whole, e api.Errno) {
	x, y, e := readBoth(a, b)
	switch {
	case e != api.OK:
		return "", "", e
	case y.IsZero():
		return "", "", api.ErrZero
	}
	quotient, rest := x.Over(y)
	q, _ = write(quotient) // neither has more digits than both of a and b
	r, _ = write(rest)
	return q, r, api.OK
}

// Gcd returns the greatest common divisor, which is not negative.
func Gcd(a, b api.Whole) (api.Whole, api.Errno) {
	return combine(divisor, a, b)
}

// Pow returns the n-th power.
func Pow(a api.Whole, n int) (api.Whole, api.Errno) {
	x, e := read(a)
	switch {
	case e != api.OK:
		return "", e
	case n < 0 || n > api.MaxPower:
		return "", api.ErrArg
	}
	return write(x.ToPower(n))
}

// Root returns the greatest number whose k-th power is at most a.
func Root(a api.Whole, k int) (api.Whole, api.Errno) {
	x, e := read(a)
	switch {
	case e != api.OK:
		return "", e
	case k < 1 || k > api.MaxRoot || x.Below:
		return "", api.ErrArg
	}
	return write(number.Signed{Magnitude: x.Root(k)})
}
