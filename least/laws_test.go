package least

import (
	"math/big"
	"math/rand"
	"slices"
	"strings"
	"testing"

	"verdigris/api"
)

func fracOf(x *big.Rat) api.Frac {
	return api.Frac{N: api.Whole(x.Num().String()), D: api.Whole(x.Denom().String())}
}

func toRat(a api.Frac) *big.Rat {
	x, _ := new(big.Rat).SetString(string(a.N) + "/" + string(a.D))
	return x
}

// drawnFrac returns a fraction whose parts have at most that many digits, or often a small whole number, so that many rows are multiples of others.
func drawnFrac(r *rand.Rand, digits int) api.Frac {
	if r.Intn(3) == 0 {
		return fracOf(big.NewRat(int64(r.Intn(5)-2), 1))
	}
	below := new(big.Int).Exp(big.NewInt(10), big.NewInt(int64(1+r.Intn(digits))), nil)
	n, d := new(big.Int).Rand(r, below), new(big.Int).Rand(r, below)
	if r.Intn(2) == 0 {
		n.Neg(n)
	}
	return fracOf(new(big.Rat).SetFrac(n, d.Add(d, big.NewInt(1))))
}

func drawnList(r *rand.Rand, n, digits int) []api.Frac {
	l := make([]api.Frac, n)
	for i := range l {
		l[i] = drawnFrac(r, digits)
	}
	return l
}

// drawnTable returns a table; often a row or a column is a sum of others, or stands twice.
func drawnTable(r *rand.Rand, height, width, digits int) [][]api.Frac {
	a := make([][]api.Frac, height)
	for i := range a {
		a[i] = drawnList(r, width, digits)
	}
	if r.Intn(3) == 0 {
		a[r.Intn(height)] = slices.Clone(a[r.Intn(height)])
	}
	if r.Intn(3) == 0 {
		from, to := r.Intn(width), r.Intn(width)
		for _, row := range a {
			row[to] = row[from]
		}
	}
	if r.Intn(3) == 0 && height > 2 && digits < 200 { // so that the sum is valid
		a[height-1] = sumOf(a[0], a[1], big.NewRat(int64(1+r.Intn(3)), 2))
	}
	return a
}

// sumOf returns a row plus a multiple of another one.
func sumOf(row, other []api.Frac, times *big.Rat) []api.Frac {
	l := make([]api.Frac, len(row))
	for i, x := range row {
		l[i] = fracOf(new(big.Rat).Add(toRat(x), new(big.Rat).Mul(times, toRat(other[i]))))
	}
	return l
}

// drawnWeights returns weights, some of which are 0.
func drawnWeights(r *rand.Rand, n, digits int) []api.Frac {
	l := drawnList(r, n, digits)
	for i, x := range l {
		l[i].N = api.Whole(strings.TrimPrefix(string(x.N), "-"))
	}
	return l
}

func toRats(a [][]api.Frac) [][]*big.Rat {
	all := make([][]*big.Rat, len(a))
	for i, row := range a {
		for _, x := range row {
			all[i] = append(all[i], toRat(x))
		}
	}
	return all
}

// fromRats returns the fractions of the numbers, or ErrBig if a part has too many digits.
func fromRats(numbers []*big.Rat) ([]api.Frac, api.Errno) {
	var l []api.Frac
	for _, x := range numbers {
		if len(strings.TrimPrefix(x.Num().String(), "-")) > api.MaxWhole || len(x.Denom().String()) > api.MaxWhole {
			return nil, api.ErrBig
		}
		l = append(l, fracOf(x))
	}
	return l, api.OK
}

// reduced divides and subtracts rows until each of the first columns has a row with 1 of its own, or none, and returns the rows and the rank.
func reduced(rows [][]*big.Rat, columns int) ([][]*big.Rat, int) {
	rank := 0
	for j := range columns {
		found := slices.IndexFunc(rows[rank:], func(row []*big.Rat) bool { return row[j].Sign() != 0 })
		if found < 0 {
			continue
		}
		rows[rank], rows[rank+found] = rows[rank+found], rows[rank]
		pivot := new(big.Rat).Set(rows[rank][j])
		for _, x := range rows[rank] {
			x.Quo(x, pivot)
		}
		for i, row := range rows {
			if times := new(big.Rat).Set(row[j]); i != rank {
				for k, x := range row {
					x.Sub(x, new(big.Rat).Mul(times, rows[rank][k]))
				}
			}
		}
		rank++
	}
	return rows, rank
}

// solutionOf solves equations that end with their right-hand sides.
func solutionOf(rows [][]*big.Rat) ([]api.Frac, api.Errno) {
	rows, rank := reduced(rows, len(rows))
	if rank < len(rows) {
		return nil, api.ErrZero
	}
	var x []*big.Rat
	for _, row := range rows {
		x = append(x, row[len(rows)])
	}
	return fromRats(x)
}

// normalOf returns the normal equations, which end with their right-hand sides, of rows that end with theirs.
func normalOf(rows [][]*big.Rat, w []api.Frac) [][]*big.Rat {
	width := len(rows[0])
	all := make([][]*big.Rat, width-1)
	for j := range all {
		for k := range width {
			total := new(big.Rat)
			for i, row := range rows {
				x := new(big.Rat).Mul(row[j], row[k])
				total.Add(total, x.Mul(x, toRat(w[i])))
			}
			all[j] = append(all[j], total)
		}
	}
	return all
}

// distances returns the elements of a x - b.
func distances(a [][]api.Frac, b, x []api.Frac) []*big.Rat {
	var l []*big.Rat
	for i, row := range a {
		total := new(big.Rat).Neg(toRat(b[i]))
		for j, y := range row {
			total.Add(total, new(big.Rat).Mul(toRat(y), toRat(x[j])))
		}
		l = append(l, total)
	}
	return l
}

func measureOf(a [][]api.Frac, b, w, x []api.Frac) *big.Rat {
	total := new(big.Rat)
	for i, d := range distances(a, b, x) {
		square := new(big.Rat).Mul(d, d)
		total.Add(total, square.Mul(square, toRat(w[i])))
	}
	return total
}

// Results agree with those that the library's fractions lead to, whatever is met on the way (P6.1 to P6.3).
func TestAgainstLibrary(t *testing.T) {
	r := rand.New(rand.NewSource(61))
	seen := map[api.Errno]int{}
	for i := range 400 {
		digits := []int{1, 2, 3, 10, 40, 100, 300, 600}[i%8]
		width := 1 + r.Intn([]int{10, 10, 6, 5, 4, 3, 3, 2}[i%8])
		height := 1 + r.Intn([]int{40, 20, 10, 8, 6, 4, 4, 3}[i%8])
		a, b, w, x := drawnTable(r, height, width, digits), drawnList(r, height, digits), drawnWeights(r, height, digits), drawnList(r, width, digits)
		_, rank := reduced(toRats(a), width)
		expectRank(t, a, rank, api.OK)
		want, e := solutionOf(normalOf(toRats(beside(a, b)), w))
		expectLeast(t, a, b, w, want, e)
		seen[e]++
		measure, e := fromRats([]*big.Rat{measureOf(a, b, w, x)})
		if e != api.OK {
			measure = []api.Frac{{}}
		}
		expectMeasure(t, a, b, w, x, measure[0], e)
		square := drawnTable(r, width, width, digits)
		right := drawnList(r, width, digits)
		want, e = solutionOf(toRats(beside(square, right)))
		expectSolve(t, square, right, want, e)
		seen[e]++
	}
	if seen[api.OK] < 100 || seen[api.ErrZero] < 100 || seen[api.ErrBig] < 50 {
		t.Errorf("numbers of results by errors: %v", seen)
	}
}

// P6.4: a solution solves its equations, and is the one of least squares with any weights above 0.
func TestSolutionSolves(t *testing.T) {
	r := rand.New(rand.NewSource(62))
	found := 0
	for range 500 {
		n := 1 + r.Intn(api.MaxTableColumns)
		a, b := drawnTable(r, n, n, 2), drawnList(r, n, 2)
		x, e := Solve(a, b)
		if e != api.OK {
			if rank, _ := Rank(a); e != api.ErrZero || rank == n {
				t.Fatalf("Solve(%v, %v): error %d", a, b, e)
			}
			continue
		}
		found++
		for i, d := range distances(a, b, x) {
			if d.Sign() != 0 {
				t.Fatalf("%v does not solve equation %d of %v, %v", x, i, a, b)
			}
		}
		w := make([]api.Frac, n)
		for i := range w {
			w[i] = fracOf(big.NewRat(int64(1+r.Intn(9)), int64(1+r.Intn(9))))
		}
		expectLeast(t, a, b, w, x, api.OK)
		expectMeasure(t, a, b, w, x, fr("0"), api.OK)
	}
	if found < 100 {
		t.Errorf("%d solutions", found)
	}
}

func measured(t *testing.T, a [][]api.Frac, b, w, x []api.Frac) *big.Rat {
	t.Helper()
	measure, e := Measure(a, b, w, x)
	if e != api.OK {
		t.Fatalf("Measure(%v, %v, %v, %v): error %d", a, b, w, x, e)
	}
	return toRat(measure)
}

// P6.4: no other x has a weighted sum of squares that is as small.
func TestLeastIsLeast(t *testing.T) {
	r := rand.New(rand.NewSource(63))
	found := 0
	for range 300 {
		height, width := 1+r.Intn(12), 1+r.Intn(5)
		a, b, w := drawnTable(r, height, width, 1), drawnList(r, height, 1), drawnWeights(r, height, 1)
		x, e := Least(a, b, w)
		if e == api.ErrZero {
			continue
		}
		found++
		least := measured(t, a, b, w, x)
		for i := range 10 {
			other := slices.Clone(x)
			step := big.NewRat(int64(r.Intn(3)-1), int64(1+r.Intn(1<<(3*i))))
			j := r.Intn(width)
			other[j] = fracOf(step.Add(step, toRat(x[j])))
			if r.Intn(2) == 0 {
				other[r.Intn(width)] = drawnFrac(r, 2)
			}
			if more := measured(t, a, b, w, other); !slices.Equal(other, x) && more.Cmp(least) <= 0 {
				t.Fatalf("Measure of %v, %v, %v: %v of %v, %v of Least's %v", a, b, w, more, other, least, x)
			}
		}
	}
	if found < 100 {
		t.Errorf("%d results", found)
	}
}

// P6.4: a row with the weight 0 counts for nothing; a row that stands twice counts like one with twice the weight; and the order of rows is nothing to the result.
func TestWeights(t *testing.T) {
	r := rand.New(rand.NewSource(64))
	for range 500 {
		height, width := 1+r.Intn(12), 1+r.Intn(5)
		a, b, w := drawnTable(r, height, width, 2), drawnList(r, height, 2), drawnWeights(r, height, 2)
		point := drawnList(r, width, 2)
		x, e := Least(a, b, w)
		measure := fracOf(measured(t, a, b, w, point))
		i := r.Intn(height)
		expectSame := func(a [][]api.Frac, b, w []api.Frac) {
			t.Helper()
			expectLeast(t, a, b, w, x, e)
			expectMeasure(t, a, b, w, point, measure, api.OK)
		}
		expectSame(slices.Insert(slices.Clone(a), i, drawnList(r, width, 3)), slices.Insert(slices.Clone(b), i, drawnFrac(r, 3)), slices.Insert(slices.Clone(w), i, fr("0")))
		halved := slices.Clone(w)
		halved[i] = fracOf(new(big.Rat).Mul(toRat(w[i]), big.NewRat(1, 2)))
		expectSame(append(slices.Clone(a), a[i]), append(slices.Clone(b), b[i]), append(halved, halved[i]))
		expectSame(append(slices.Clone(a[i:]), a[:i]...), append(slices.Clone(b[i:]), b[:i]...), append(slices.Clone(w[i:]), w[:i]...))
	}
}

// P6.4: the rank is the same if a row is added to another one, and at most the numbers of rows and of columns.
func TestRankLaws(t *testing.T) {
	r := rand.New(rand.NewSource(65))
	seen := map[int]bool{}
	for range 500 {
		height, width := 1+r.Intn(10), 1+r.Intn(api.MaxTableColumns)
		a := drawnTable(r, height, width, 2)
		rank, e := Rank(a)
		if e != api.OK || rank > height || rank > width {
			t.Fatalf("Rank(%v): %d, error %d", a, rank, e)
		}
		seen[rank] = true
		if i, k := r.Intn(height), r.Intn(height); i != k {
			a[i] = sumOf(a[i], a[k], big.NewRat(1, 1))
			expectRank(t, a, rank, api.OK)
		}
		expectRank(t, transpose(a), rank, api.OK)
	}
	if len(seen) < 9 {
		t.Errorf("ranks %v", seen)
	}
}

// No function writes to its arguments, or to the unused capacity of one (R3).
func TestArgumentsStay(t *testing.T) {
	r := rand.New(rand.NewSource(66))
	for range 200 {
		n := 1 + r.Intn(5)
		memory, lists := drawnTable(r, n+1, n+1, 3), drawnTable(r, 3, n+1, 3)
		lists[1] = drawnWeights(r, n+1, 3)
		memory[0][0] = fr("0") // so that rows are exchanged
		a := make([][]api.Frac, n, n+1)
		for i := range a {
			a[i] = memory[i][:n]
		}
		b, w, x := lists[0][:n], lists[1][:n], lists[2][:n]
		keep, keepLists := toRats(memory), toRats(lists)
		Check(a)
		Rank(a)
		Solve(a, b)
		Least(a, b, w)
		Measure(a, b, w, x)
		expectKept(t, memory, keep)
		expectKept(t, lists, keepLists)
		for i, row := range a {
			if &row[0] != &memory[i][0] || a[:n+1][n] != nil {
				t.Fatalf("the rows of %v have been exchanged", memory)
			}
		}
	}
}

func expectKept(t *testing.T, a [][]api.Frac, want [][]*big.Rat) {
	t.Helper()
	for i, row := range a {
		for j, x := range row {
			if x != fracOf(want[i][j]) {
				t.Fatalf("%v has become %v", want[i][j], x)
			}
		}
	}
}

// The rows that are exchanged are a copy.
func TestRowsStay(t *testing.T) {
	r, _ := readRows(tab("0 1 2; 3 4 5; 6 7 9"))
	keep, _ := readRows(tab("0 1 2; 3 4 5; 6 7 9"))
	if rank := eliminate(r, 3).rank(); rank != 3 {
		t.Errorf("rank %d", rank)
	}
	for i, row := range r {
		for j, x := range row {
			if x.Order(keep[i][j]) != 0 {
				t.Errorf("row %d: element %v has become %v", i, keep[i][j], x)
			}
		}
	}
}
