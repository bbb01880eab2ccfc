package power

import "verdigris/api"

// argument is a number with the least and the greatest value that it may have.
type argument struct{ value, least, greatest int }

func numerator(p int) argument {
	return argument{p, 1, api.MaxNumer}
}

func degree(q int) argument {
	return argument{q, 1, api.MaxRoot}
}

// check returns ErrArg if one of the arguments is out of its range.
func check(list ...argument) (e api.Errno) {
arguments:
	for _, a := range list {
		switch {
		case a.value < a.least, a.value > a.greatest:
			e = api.ErrArg
			break arguments
		}
	}
	return e
}
