package matrix

import (
	"iter"
	"slices"

	"verdigris/api"
	"verdigris/number"
)

// rows are the rows of a matrix, from the top.
type rows []line

// readRows returns the rows of a valid matrix.
func readRows(m api.Mat) rows {
	r := make(rows, len(m))
	for i, row := range m {
		r[i] = readLine(row)
	}
	return r
}

// column returns the elements of a column.
func (r rows) column(j int) line {
	elements := make(line, len(r))
	for i, row := range r {
		elements[i] = row[j]
	}
	return elements
}

// others yields all rows but one, with their numbers.
func (r rows) others(but int) iter.Seq2[int, line] {
	return func(yield func(int, line) bool) {
		for i, row := range r {
			if i != but && !yield(i, row) {
				return
			}
		}
	}
}

// withIdentity returns the rows of a square matrix, each one followed by that of the identity.
func (r rows) withIdentity() rows {
	wide := make(rows, len(r))
	for i, row := range r {
		unit := slices.Repeat(line{number.RatioOf(0)}, len(r))
		unit[i] = number.RatioOf(1)
		wide[i] = slices.Concat(row, unit)
	}
	return wide
}

// beside returns an element of the matrix that follows a square one in the same rows.
func (r rows) beside(i, j int) number.Ratio {
	return r[i][len(r)+j]
}

// table is what elimination has made of some rows, and the determinant of the square matrix that they began with.
type table struct {
	rows
	det number.Ratio
}

// eliminate turns the square matrix that the rows begin with into the identity; it stops on the way if the determinant is 0.
func eliminate(r rows) table {
	t := table{slices.Clone(r), number.RatioOf(1)}
columns:
	for k := range t.rows {
		found := k
		for t.rows[found][k].IsZero() {
			found++
			if found == len(t.rows) {
				t.det = number.RatioOf(0)
				break columns
			}
		}
		if found != k {
			t.rows[k], t.rows[found] = t.rows[found], t.rows[k]
			t.det = t.det.Negative()
		}
		pivot := t.rows[k][k]
		t.det = t.det.Times(pivot)
		t.rows[k] = t.rows[k].over(pivot)
		for i, row := range t.others(k) {
			t.rows[i] = row.minus(row[k], t.rows[k])
		}
	}
	return t
}

// fill returns the matrix that has these elements.
func fill(height, width int, element func(row, column int) api.Frac) api.Mat {
	m := make(api.Mat, height)
	for i := range m {
		m[i] = make([]api.Frac, width)
		for j := range m[i] {
			m[i][j] = element(i, j)
		}
	}
	return m
}

// write returns the matrix that has these elements, or ErrBig if one of them has too many digits.
func write(height, width int, element func(row, column int) number.Ratio) (api.Mat, api.Errno) {
	e := api.OK
	m := fill(height, width, func(i, j int) api.Frac {
		a, ok := element(i, j).Frac()
		if !ok {
			e = api.ErrBig
		}
		return a
	})
	if e != api.OK {
		return nil, e
	}
	return m, api.OK
}
