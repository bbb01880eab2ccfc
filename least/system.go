package least

import (
	"slices"

	"verdigris/number"
)

// rows are rows of whole numbers, each of which has as many.
type rows []line

// column returns the elements of a column.
func (r rows) column(j int) line {
	return list(len(r), func(i int) number.Signed { return r[i][j] })
}

// exchange exchanges two rows.
func (r rows) exchange(i, k int) {
	r[i], r[k] = r[k], r[i]
}

// normal returns the equations that the unknowns with the least weighted sum of squares solve. The rows are the columns of the equations that these can leave unsolved.
func (r rows) normal(weights line) rows {
	return list(len(r)-1, func(j int) line {
		weighted := line(list(len(weights), func(i int) number.Signed { return weights[i].Times(r[j][i]) }))
		return list(len(r), func(k int) number.Signed { return weighted.times(r[k]) })
	})
}

// system is rows the first of which are cleared: each of them has a column of its own, in which it has the number that all of them have in common, and the other cleared rows have 0.
//
// All elements of cleared rows are determinants of elements that the rows had at first, so that they stay whole and grow by no more than these are long (Bareiss).
type system struct {
	rows
	own    []int // the columns of the cleared rows
	common number.Signed
}

// rank returns the number of cleared rows.
func (s system) rank() int {
	return len(s.own)
}

// eliminate clears as many rows as possible, each one with one of the first columns for its own.
func eliminate(r rows, width int) system {
	s := system{rows: slices.Clone(r), common: number.Of(1)}
columns:
	for j := 0; j < width && s.rank() < len(s.rows); j++ {
		i := s.rank()
		for s.rest(s.rows[i])(j).IsZero() {
			i++
			if i == len(s.rows) {
				continue columns
			}
		}
		s.exchange(i, s.rank())
		s.clear(j)
	}
	return s
}

// rest returns the elements, by columns, of a multiple of a row less multiples of the cleared rows, which has 0 in all their own columns.
func (s system) rest(row line) func(j int) number.Signed {
	mine, column := row.at(s.own), s.column
	return func(j int) number.Signed {
		return row[j].Times(s.common).Minus(mine.times(column(j)))
	}
}

// clear clears one row more, whose rest is not 0 in column j, which becomes its own.
func (s *system) clear(j int) {
	n := s.rank()
	rest := list(len(s.rows[n]), s.rest(s.rows[n]))
	for i, row := range s.rows[:n] {
		s.rows[i] = list(len(row), func(k int) number.Signed {
			return row[k].Times(rest[j]).Minus(row[j].Times(rest[k])).Part(s.common)
		})
	}
	s.rows[n], s.own, s.common = rest, append(s.own, j), rest[j]
}

// solve returns the numbers that solve equations, which are as many as the unknowns and end with their right-hand sides, and whether exactly these do.
func solve(equations rows) ([]number.Ratio, bool) {
	n := len(equations)
	s := eliminate(equations, n)
	if s.rank() < n {
		return nil, false
	}
	right := s.column(n)
	return list(n, func(j int) number.Ratio { return number.Lowest(right[j], s.common) }), true
}
