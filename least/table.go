package least

import (
	"slices"

	"verdigris/api"
	"verdigris/number"
)

// beside returns the table with one more column.
func beside(a [][]api.Frac, column []api.Frac) [][]api.Frac {
	return list(len(a), func(i int) []api.Frac { return slices.Concat(a[i], column[i:i+1]) })
}

// transpose returns the columns of a table.
func transpose(a [][]api.Frac) [][]api.Frac {
	return list(len(a[0]), func(j int) []api.Frac {
		return list(len(a), func(i int) api.Frac { return a[i][j] })
	})
}

// read returns the numbers of fractions, all of which are valid.
func read(l []api.Frac) []number.Ratio {
	return list(len(l), func(i int) number.Ratio {
		x, _ := number.ReadFrac(l[i])
		return x
	})
}

// write returns the fractions, or ErrBig if one of them has too many digits.
func write(numbers []number.Ratio) ([]api.Frac, api.Errno) {
	l := make([]api.Frac, len(numbers))
	for i, x := range numbers {
		written, ok := x.Frac()
		if !ok {
			return nil, api.ErrBig
		}
		l[i] = written
	}
	return l, api.OK
}

// readRows returns the rows of a table, each one multiplied to whole numbers, and by what.
func readRows(a [][]api.Frac) (r rows, scales line) {
	for _, row := range a {
		l, scale := toWhole(read(row)...)
		r = append(r, l)
		scales = append(scales, scale)
	}
	return r, scales
}
