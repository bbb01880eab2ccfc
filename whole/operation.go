package whole

import (
	"verdigris/api"
	"verdigris/number"
)

// The operations on two numbers that have one number as their result.
const (
	sum = iota
	difference
	product
	divisor
	operationCount
)

type operation struct {
	compute func(a, b number.Signed) number.Signed
}

func operations() [operationCount]operation {
	return [operationCount]operation{
		sum:        {number.Signed.Plus},
		difference: {number.Signed.Minus},
		product:    {number.Signed.Times},
		divisor:    {number.Signed.Divisor},
	}
}

func combine(kind int, a, b api.Whole) (api.Whole, api.Errno) {
	x, y, e := readBoth(a, b)
	if e != api.OK {
		return "", e
	}
	return write(operations()[kind].compute(x, y))
}

// read returns the number of a text, or ErrWhole if it is not valid.
func read(a api.Whole) (number.Signed, api.Errno) {
	x, ok := number.Read(string(a), api.MaxWhole)
	if !ok {
		return number.Signed{}, api.ErrWhole
	}
	return x, api.OK
}

func readBoth(a, b api.Whole) (x, y number.Signed, e api.Errno) {
	if x, e = read(a); e != api.OK {
		return number.Signed{}, number.Signed{}, e
	}
	if y, e = read(b); e != api.OK {
		return number.Signed{}, number.Signed{}, e
	}
	return x, y, api.OK
}

// write returns the text of a number, or ErrBig if it has too many digits.
func write(x number.Signed) (api.Whole, api.Errno) {
	text, ok := x.Text(api.MaxWhole)
	if !ok {
		return "", api.ErrBig
	}
	return api.Whole(text), api.OK
}
