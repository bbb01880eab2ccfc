package least

import (
	"slices"
	"strings"
	"testing"

	"verdigris/api"
)

// fr returns the fraction whose parts are written with a slash between them, as they stand; D is 1 if there is none.
func fr(text string) api.Frac {
	n, d, slash := strings.Cut(text, "/")
	if !slash {
		d = "1"
	}
	return api.Frac{N: api.Whole(n), D: api.Whole(d)}
}

// frs returns the fractions that are written with spaces between them.
func frs(texts string) []api.Frac {
	var l []api.Frac
	for _, text := range strings.Fields(texts) {
		l = append(l, fr(text))
	}
	return l
}

// tab returns the table whose rows are written with semicolons between them.
func tab(texts string) [][]api.Frac {
	var a [][]api.Frac
	for _, text := range strings.Split(texts, ";") {
		a = append(a, frs(text))
	}
	return a
}

// unit returns the square table with x in the diagonal and 0 elsewhere.
func unit(n int, x api.Frac) [][]api.Frac {
	a := make([][]api.Frac, n)
	for i := range a {
		a[i] = slices.Repeat(frs("0"), n)
		a[i][i] = x
	}
	return a
}

// tenTo returns the digits of a power of 10.
func tenTo(n int) string {
	return "1" + strings.Repeat("0", n)
}

// nines has as many digits as a part of a fraction can have.
var nines = strings.Repeat("9", api.MaxWhole)

func invalidFracs() []api.Frac {
	return []api.Frac{{}, fr("2/4"), fr("0/2"), fr("1/0"), fr("1/-1"), fr("-0"), fr("01"), fr("x"), {N: "1"}, fr(tenTo(api.MaxWhole)), fr("1/" + tenTo(api.MaxWhole))}
}

// invalidTables returns tables with a wrong number of rows or columns, or with one wrong element.
func invalidTables() [][][]api.Frac {
	l := [][][]api.Frac{
		nil, {}, {nil}, {{}}, {nil, nil}, slices.Repeat(tab("1"), 41), slices.Repeat([][]api.Frac{nil}, 40), tab("1 2 3 4 5 6 7 8 9 10 11"), slices.Repeat(tab("1 2 3 4 5 6 7 8 9 10 11"), 11),
		tab("1; 1 2"), tab("1 2; 1"), tab("1 2; 1 2; 1 2 3"), tab("1 2; 1 2; 1"), {frs("1 2"), nil}, {nil, frs("1 2")}, {frs("1"), {}},
		make([][]api.Frac, 100000), {make([]api.Frac, 100000)},
	}
	for _, x := range invalidFracs() {
		l = append(l, [][]api.Frac{{x}})
		for i := range 12 {
			a := tab("1 2 3 4; 5 6 7 8; 9 10 11 12")
			a[i/4][i%4] = x
			l = append(l, a)
		}
		a := tab("1 2; 3 5")
		a[1][1] = x
		l = append(l, a)
	}
	return l
}

// P6.1
func TestCheck(t *testing.T) {
	for _, a := range [][][]api.Frac{tab("0"), tab("-1/2"), tab("1 2 3 4 5 6 7 8 9 10"), slices.Repeat(tab("1"), 40), slices.Repeat(tab("1 2 3 4 5 6 7 8 9 -1/10"), 40), tab("1 2; 3 4; 5 6"), tab("-" + nines + " 1/" + nines)} {
		if e := Check(a); e != api.OK {
			t.Errorf("Check(%.200v): error %d", a, e)
		}
	}
	for _, a := range invalidTables() {
		if e := Check(a); e != api.ErrTable {
			t.Errorf("Check(%.200v): error %d", a, e)
		}
	}
}

func expectRank(t *testing.T, a [][]api.Frac, want int, wantE api.Errno) {
	t.Helper()
	if rank, e := Rank(a); rank != want || e != wantE {
		t.Errorf("Rank(%.200v): %d, error %d; want %d, error %d", a, rank, e, want, wantE)
	}
}

// P6.1
func TestRank(t *testing.T) {
	for _, x := range []struct {
		a    string
		want int
	}{
		{"1 2; 2 4", 1},
		{"0", 0},
		{"1 0 1; 0 1 1", 2},
		{"-1/7", 1},
		{"0 0; 0 0; 0 0", 0},
		{"0 1; 0 2", 1},
		{"0 1; 1 0", 2},
		{"1; 2; 3", 1},
		{"0; 0; 3", 1},
		{"0 0 0 0 0 0 0 0 0 3", 1},
		{"0 0 0; 0 0 5; 0 0 6", 1},
		{"0 0 0; 0 0 5; 0 4 6", 2},
		{"0 0 3; 0 2 0; 1 0 0", 3},
		{"1 2 3; 4 5 6; 7 8 9", 2},
		{"1 2 3; 4 5 6; 7 8 10", 3},
		{"1/2 1/3; 3/4 1/2", 1},
		{"1/2 1/3; 3/4 1/3", 2},
		{"1 1; 1 1; 1 1; 1 2", 2},
		{"0 0 0; 1 2 3; 2 4 6; 0 0 0; 1 2 4; 3 6 7; 0 1 0", 3},
		{"1 0 0 1; 0 1 0 1; 0 0 1 1; 1 1 1 3", 3},
		{"1 2 3 4; 2 4 6 8; 3 6 9 12; 4 8 12 17", 2},
		{nines + " 1; " + nines + " 1", 1},
		{nines + " 1; " + nines + " 2", 2},
		{"1/" + nines + " 1/7; 2/" + nines + " 2/7", 1},
		{"1/" + nines + " 1/7; 2/" + nines + " 2/" + nines, 2},
	} {
		expectRank(t, tab(x.a), x.want, api.OK)
	}
	tall := slices.Concat(slices.Repeat(tab("1 2 3 4 5 6 7 8 9 10"), 30), unit(10, fr("3")))
	expectRank(t, tall, 10, api.OK)
	expectRank(t, tall[:30], 1, api.OK)
	expectRank(t, tall[:35], 6, api.OK)
	expectRank(t, tall[30:], 10, api.OK)
	for _, a := range invalidTables() {
		expectRank(t, a, 0, api.ErrTable)
	}
}

func expectList(t *testing.T, name string, l []api.Frac, e api.Errno, want []api.Frac, wantE api.Errno) {
	t.Helper()
	if !slices.Equal(l, want) || e != wantE || wantE != api.OK && l != nil {
		t.Errorf("%s: %.200v, error %d; want %.200v, error %d", name, l, e, want, wantE)
	}
}

func expectSolve(t *testing.T, a [][]api.Frac, b, want []api.Frac, wantE api.Errno) {
	t.Helper()
	x, e := Solve(a, b)
	expectList(t, "Solve", x, e, want, wantE)
}

// P6.1: among these are tables whose rows have to be exchanged.
func TestSolve(t *testing.T) {
	for _, x := range []struct{ a, b, want string }{
		{"2 1; 1 3", "3 5", "4/5 7/5"},
		{"-2/3", "5", "-15/2"},
		{"1", "0", "0"},
		{"0 1; 1 0", "3 4", "4 3"},
		{"0 2; 3 4", "1 1", "-1/3 1/2"},
		{"2 0; 0 -1/4", "1/3 1/3", "1/6 -4/3"},
		{"1 1/2; 1/3 1/4", "0 0", "0 0"},
		{"1/2 1/3; 1/4 1/5", "1/6 -1/7", "34/7 -95/14"},
		{"0 0 1; 1 0 0; 0 1 0", "7 8 9", "8 9 7"},
		{"0 1 0; 0 0 1; 1 0 0", "7 8 9", "9 7 8"},
		{"1 1 0; 1 1 1; 0 1 1", "1 2 3", "-1 2 1"},
		{"1 2 3; 4 5 6; 7 8 10", "1 1 1", "-1 1 0"},
		{"0 0 0 5; 0 0 4 1; 0 3 1 1; 2 1 1 1", "5 4 3 2", "-1/12 5/12 3/4 1"},
		{"1 1/2 1/3 1/4; 1/2 1/3 1/4 1/5; 1/3 1/4 1/5 1/6; 1/4 1/5 1/6 1/7", "1 0 0 0", "16 -120 240 -140"},
	} {
		expectSolve(t, tab(x.a), frs(x.b), frs(x.want), api.OK)
	}
	expectSolve(t, unit(10, fr("-2/3")), frs("1 2 3 4 5 6 7 8 9 -10"), frs("-3/2 -3 -9/2 -6 -15/2 -9 -21/2 -12 -27/2 15"), api.OK)
}

// P6.1: ErrZero is the error whether there are several solutions or none.
func TestSolveZero(t *testing.T) {
	for _, x := range []struct{ a, b string }{
		{"1 2; 2 4", "1 2"}, {"1 2; 2 4", "1 3"}, {"0", "0"}, {"0", "1"}, {"0 0; 0 0", "0 0"}, {"0 1; 0 2", "1 2"}, {"0 0; 1 2", "0 1"}, {"0 0; 1 2", "1 1"}, {"1 0; 2 0", "1 2"},
		{"1/2 1/3; 3/4 1/2", "1 3/2"}, {"1 2 3; 4 5 6; 7 8 9", "1 1 1"}, {"1 2 3; 4 5 6; 7 8 9", "1 1 2"}, {"1 2 3; 1 2 4; 1 2 5", "0 0 0"},
		{"1 0 0 1; 0 1 0 1; 0 0 1 1; 1 1 1 3", "1 1 1 3"}, {nines + " 1; " + nines + " 1", nines + " 1"},
	} {
		expectSolve(t, tab(x.a), frs(x.b), nil, api.ErrZero)
	}
	a := unit(10, fr("2"))
	a[9] = a[3]
	expectSolve(t, a, slices.Repeat(frs("1"), 10), nil, api.ErrZero)
}

// P6.1: ErrTable comes before ErrFrac, ErrFrac before ErrArg, and ErrArg before ErrZero.
func TestSolveErrors(t *testing.T) {
	for _, x := range []struct{ a, b string }{
		{"1 2", "1"}, {"1 2", "1 2"}, {"1 2", ""}, {"1; 2", "1 2"}, {"1; 2", "1"}, {"1 2; 3 4", "1"}, {"1 2; 3 4", ""}, {"1 2; 3 4", "1 2 3"}, {"0 0; 0 0", "1"}, {"0 0", "0"}, {"1 2 3; 4 5 6", "1 2"}, {"0; 0; 0", "0 0 0"},
	} {
		expectSolve(t, tab(x.a), frs(x.b), nil, api.ErrArg)
	}
	expectSolve(t, slices.Repeat(tab("1 2 3 4 5 6 7 8 9 10"), 11), slices.Repeat(frs("1"), 11), nil, api.ErrArg)
	expectSolve(t, tab("1"), slices.Repeat(frs("1"), 100000), nil, api.ErrArg)
	for _, x := range invalidFracs() {
		for _, a := range []string{"1 2; 3 4", "1 2; 2 4", "1", "1 2 3"} {
			expectSolve(t, tab(a), []api.Frac{x, fr("1")}, nil, api.ErrFrac)
			expectSolve(t, tab(a), []api.Frac{fr("1"), x}, nil, api.ErrFrac)
			expectSolve(t, tab(a), []api.Frac{fr("1"), fr("2"), fr("3"), x}, nil, api.ErrFrac)
		}
	}
	for _, a := range invalidTables() {
		expectSolve(t, a, slices.Repeat(frs("1"), len(a)), nil, api.ErrTable)
		expectSolve(t, a, []api.Frac{{}}, nil, api.ErrTable)
		expectSolve(t, a, nil, nil, api.ErrTable)
	}
}

// The limit of digits is that of the results alone (P6.1).
func TestLongSolutions(t *testing.T) {
	half, long, tiny := tenTo(300), tenTo(599), "1/"+nines
	for _, x := range []struct {
		a, b, want string
		e          api.Errno
	}{
		{nines, nines, "1", api.OK},
		{nines, "1", tiny, api.OK},
		{tiny, "1", nines, api.OK},
		{"-" + tiny, tiny, "-1", api.OK},
		{nines, tiny, "", api.ErrBig},
		{half, "1/" + half, "", api.ErrBig},
		{half, "1/" + tenTo(299), "1/" + long, api.OK},
		{half + " 0; 0 " + half, half + " 1", "1 1/" + half, api.OK}, // the determinant has too many digits
		{long + " 1; 1 0", "1 0", "0 1", api.OK},
		{long + " 1; 1 0", "1 1", "1 -" + strings.Repeat("9", 599), api.OK},
		{long + " 1; 1 0", "0 10", "", api.ErrBig},
		{"1 " + long + "; 0 1/10", "0 1", "", api.ErrBig},
		{nines + " 1; 1 -1", "1 0", "", api.ErrBig},
		{nines + " 1; 1 -1", tenTo(599) + " 0", "1/10 1/10", api.OK},
		{"1 0; 0 1", nines + " " + tiny, nines + " " + tiny, api.OK},
	} {
		want := frs(x.want)
		if x.e != api.OK {
			want = nil
		}
		expectSolve(t, tab(x.a), frs(x.b), want, x.e)
	}
	expectSolve(t, unit(10, fr(nines)), slices.Repeat([]api.Frac{fr("1/7")}, 10), nil, api.ErrBig)
	expectSolve(t, unit(10, fr(nines)), slices.Repeat([]api.Frac{fr("1")}, 10), slices.Repeat(frs(tiny), 10), api.OK)
}

func expectLeast(t *testing.T, a [][]api.Frac, b, w, want []api.Frac, wantE api.Errno) {
	t.Helper()
	x, e := Least(a, b, w)
	expectList(t, "Least", x, e, want, wantE)
}

// P6.2
func TestLeast(t *testing.T) {
	for _, x := range []struct{ a, b, w, want string }{
		{"1; 2", "3 4", "1 1", "11/5"},
		{"1; 1", "0 3", "2 1", "1"},
		{"1; 1", "0 3", "1/2 1/3", "6/5"},
		{"1; 1", "0 3", "0 1/3", "3"},
		{"1; 1", "-1/2 1/3", "1 1", "-1/12"},
		{"1/2; 1/3", "0 0", "1 7", "0"},
		{"1/2; 1/3", "1 1", "1 1", "30/13"},
		{"-2/3", "5", "1/9", "-15/2"},
		{"1 0; 1 1; 1 2", "0 1 1", "1 1 1", "1/6 1/2"},
		{"1 0; 1 1; 1 2", "0 1 1", "7/3 7/3 7/3", "1/6 1/2"},
		{"1 0; 1 1; 1 2", "0 1 5", "1 1 0", "0 1"},
		{"1 0; 1 1; 1 2", "0 1 5", "1 0 1", "0 5/2"},
		{"1 0; 1 1; 1 2", "0 1 1", "1 2 1", "1/4 1/2"},
		{"1 0; 1 1/2; 1 1", "0 60 100", "1 1 1", "10/3 100"},
		{"1 0 0; 1 1/2 1/4; 1 1 1", "0 60 100", "1 1 1", "0 140 -40"},
		{"1 0 0; 1 1/2 1/4; 1 1 1", "0 60 100", "1/5 3 1/7", "0 140 -40"},
		{"2 1; 1 3", "3 5", "1 1000", "4/5 7/5"},
		{"0 1; 1 0", "3 4", "1 1", "4 3"},
		{"0 1; 1 0; 0 1", "3 4 5", "1 1 1", "4 4"},
		{"0 0; 0 1; 1 0; 0 0", "3 4 5 9", "1 1 1 2", "5 4"},
	} {
		expectLeast(t, tab(x.a), frs(x.b), frs(x.w), frs(x.want), api.OK)
	}
	ones := slices.Repeat(frs("1"), 40)
	expectLeast(t, slices.Repeat(tab("2"), 40), slices.Repeat(frs("1 2 3 6"), 10), ones, frs("3/2"), api.OK)
	expectLeast(t, slices.Repeat(unit(10, fr("1/2")), 4), slices.Repeat(frs("1 2 3 4 5 6 7 8 9 10"), 4), ones, frs("2 4 6 8 10 12 14 16 18 20"), api.OK)
}

// P6.2: a row with the weight 0 does not count.
func TestLeastZero(t *testing.T) {
	for _, x := range []struct{ a, b, w string }{
		{"1 1", "1", "1"}, {"0", "0", "1"}, {"0", "1", "1"}, {"1", "1", "0"}, {"1; 2", "1 2", "0 0"}, {"0; 2", "1 2", "1 0"}, {"1 0; 1 1; 1 2", "0 1 1", "1 0 0"}, {"1 1; 1 1; 2 2", "0 1 1", "1 1 1"},
		{"1 0; 1 0; 2 0", "0 1 1", "1 1 1"}, {"0 1; 0 2; 0 3", "0 1 1", "1 1 1"}, {"1 2 3; 4 5 6; 7 8 9; 1 1 1", "1 1 1 1", "1 1 1 1"}, {"1 1; 1 1; 1 2", "0 1 1", "1 1 0"}, {"1 0 0; 1 1/2 1/4; 1 1 1", "0 60 100", "1 1 0"},
		{nines + " 1; " + nines + " 1", nines + " 1", "1 1/" + nines},
	} {
		expectLeast(t, tab(x.a), frs(x.b), frs(x.w), nil, api.ErrZero)
	}
	ones := slices.Repeat(frs("1"), 40)
	expectLeast(t, slices.Repeat(unit(10, fr("1/2"))[:9], 4), ones[:36], ones[:36], nil, api.ErrZero)
}

// A list to be checked, with what is wrong about it.
type wrongList struct {
	b, w []api.Frac
	e    api.Errno
}

// wrongLists returns lists for a table with two rows: ErrFrac comes before ErrArg.
func wrongLists() []wrongList {
	l := []wrongList{
		{frs("1"), frs("1 1"), api.ErrArg}, {frs("1 1"), frs("1"), api.ErrArg}, {frs("1 1 1"), frs("1 1"), api.ErrArg}, {frs("1 1"), frs("1 1 1"), api.ErrArg}, {nil, nil, api.ErrArg}, {frs("1"), frs("1"), api.ErrArg}, {frs("1 1 1"), frs("1 1 1"), api.ErrArg},
		{frs("1 1"), frs("-1 1"), api.ErrArg}, {frs("1 1"), frs("1 -1"), api.ErrArg}, {frs("1 1"), frs("0 -1/" + nines), api.ErrArg}, {frs("1 1"), frs("-1 -1"), api.ErrArg}, {frs("1 1"), frs("0 0 -1"), api.ErrArg}, {frs("1"), frs("-1"), api.ErrArg},
		{frs("1 1"), make([]api.Frac, 100000), api.ErrFrac},
	}
	for _, x := range invalidFracs() {
		for _, y := range []api.Frac{fr("1"), fr("0"), fr("-1")} {
			l = append(l,
				wrongList{[]api.Frac{x, y}, frs("1 1"), api.ErrFrac}, wrongList{[]api.Frac{y, x}, frs("1 -1"), api.ErrFrac}, wrongList{[]api.Frac{x}, frs("1 1 1"), api.ErrFrac},
				wrongList{frs("1 1"), []api.Frac{x, y}, api.ErrFrac}, wrongList{frs("1 1"), []api.Frac{y, x}, api.ErrFrac}, wrongList{frs("1"), []api.Frac{y, y, x}, api.ErrFrac})
		}
	}
	return l
}

// P6.2: ErrTable comes before ErrFrac, ErrFrac before ErrArg, and ErrArg before ErrZero.
func TestLeastErrors(t *testing.T) {
	for _, a := range []string{"1; 2", "0; 0", "1 2; 3 4", "1 2 3; 4 5 6", nines + "; 1/" + nines} {
		for _, x := range wrongLists() {
			expectLeast(t, tab(a), x.b, x.w, nil, x.e)
		}
	}
	for _, a := range invalidTables() {
		ones := slices.Repeat(frs("1"), len(a))
		expectLeast(t, a, ones, ones, nil, api.ErrTable)
		expectLeast(t, a, nil, nil, nil, api.ErrTable)
		expectLeast(t, a, []api.Frac{{}}, frs("-1"), nil, api.ErrTable)
	}
}

// The limit of digits is that of the results alone (P6.2).
func TestLongLeast(t *testing.T) {
	half, long, tiny := tenTo(300), tenTo(599), "1/"+nines
	for _, x := range []struct {
		a, b, w, want string
		e             api.Errno
	}{
		{nines + "; " + nines, nines + " " + nines, "1 " + nines, "1", api.OK},
		{nines + "; " + nines, "1 1", tiny + " " + nines, tiny, api.OK},
		{tiny + "; " + tiny, "1 1", tiny + " " + nines, nines, api.OK},
		{long + "; " + long, "1 3", "1 1", "1/5" + strings.Repeat("0", 598), api.OK},
		{tiny + "; " + nines, "1 1", "1 0", nines, api.OK},
		{tiny + "; " + nines, "1 1", "1 1", "", api.ErrBig},
		{half + "; 1", "1/" + half + " 0", "1 0", "", api.ErrBig},
		{"1; 1", "0 1", "1 " + nines, "", api.ErrBig},
		{"1; 1", "0 1", "1 " + strings.Repeat("9", 599), strings.Repeat("9", 599) + "/" + tenTo(599), api.OK},
		{long + " 1; 1 0; 1 0", "1 1 1", "1 " + nines + " " + nines, "1 -" + strings.Repeat("9", 599), api.OK},
		{long + " 1; 1 0; 1 0", "0 10 10", "1 1 1", "", api.ErrBig},
		{"1 " + half + "; 0 1/" + half, half + " 1/" + half, "1 1", "0 1", api.OK},
		{"1 " + half + "; 0 1/" + half, "1 1", "1 1", "-" + nines + " " + half, api.OK},
		{"1 " + half + "; 0 1/" + half, "0 1", "1 1", "", api.ErrBig},
	} {
		want := frs(x.want)
		if x.e != api.OK {
			want = nil
		}
		expectLeast(t, tab(x.a), frs(x.b), frs(x.w), want, x.e)
	}
	wide := slices.Repeat(unit(10, fr(nines)), 4)
	expectLeast(t, wide, slices.Repeat(frs("1"), 40), slices.Repeat(frs(nines), 40), slices.Repeat(frs(tiny), 10), api.OK)
}

func expectMeasure(t *testing.T, a [][]api.Frac, b, w, x []api.Frac, want api.Frac, wantE api.Errno) {
	t.Helper()
	if measure, e := Measure(a, b, w, x); measure != want || e != wantE {
		t.Errorf("Measure(%.200v; %.100v; %.100v; %.100v): %.200v, error %d; want %.200v, error %d", a, b, w, x, measure, e, want, wantE)
	}
}

// P6.3: the limit of digits is that of the result alone.
func TestMeasure(t *testing.T) {
	half, long, tiny := tenTo(300), tenTo(599), "1/"+nines
	for _, x := range []struct{ a, b, w, x, want string }{
		{"1; 2", "3 4", "1 1/2", "1", "6"},
		{"1; 2", "3 4", "1 1", "11/5", "4/5"},
		{"1; 2", "3 4", "0 0", "1", "0"},
		{"2", "4", "7", "2", "0"},
		{"2", "4", "7", "-2", "448"},
		{"0", "-1/2", "1/3", "100", "1/12"},
		{"1 2; 3 4", "5 6", "1 10", "1/2 -1/3", "13211/36"},
		{"1 2 3", "1/7", "1", "1 -2 1", "1/49"},
		{"1 0; 1 1; 1 2", "0 1 1", "1 1 1", "1/6 1/2", "1/6"},
		{half, "0", "1", "1/" + half, "1"},
		{long, "0", "1/" + long, "1", long},
		{long, long, nines, "1", "0"},
		{long + "; 1", "0 0", "0 1", long, ""},
		{long + "; 1", "0 0", "0 1", "3", "9"},
		{nines + " -" + nines, "1", "5", "1 1", "5"},
		{tiny, "0", "1", nines, "1"},
		{tiny, "0", "1", "1", ""},
		{half, "0", "1", "1", ""},
		{"-" + tenTo(299), "0", "1", "1", tenTo(598)},
		{"1; 1", "0 1", nines + " 1", "1", nines},
		{"1; 1", "0 0", nines + " 1", "1", ""},
		{"1; 1", "0 1/7", tiny + " 0", "1", tiny},
	} {
		want, wantE := fr(x.want), api.OK
		if x.want == "" {
			want, wantE = api.Frac{}, api.ErrBig
		}
		expectMeasure(t, tab(x.a), frs(x.b), frs(x.w), frs(x.x), want, wantE)
	}
	ones := slices.Repeat(frs("1"), 40)
	expectMeasure(t, slices.Repeat(tab("1 2 3 4 5 6 7 8 9 10"), 40), ones, ones, ones[:10], fr("116640"), api.OK)
}

// P6.3: ErrTable comes before ErrFrac, and ErrFrac before ErrArg.
func TestMeasureErrors(t *testing.T) {
	a := tab("1 2 3; 4 5 6")
	for _, x := range wrongLists() {
		expectMeasure(t, a, x.b, x.w, frs("1 1 1"), api.Frac{}, x.e)
		expectMeasure(t, a, x.b, x.w, frs("1"), api.Frac{}, x.e)
	}
	for _, x := range [][]api.Frac{nil, frs("1"), frs("1 1"), frs("1 1 1 1"), slices.Repeat(frs("1"), 100000)} {
		expectMeasure(t, a, frs("1 1"), frs("1 1"), x, api.Frac{}, api.ErrArg)
	}
	expectMeasure(t, tab("1"), frs("0"), frs("-1"), frs("1"), api.Frac{}, api.ErrArg)
	for _, x := range invalidFracs() {
		for _, l := range [][]api.Frac{{x, fr("1"), fr("1")}, {fr("1"), fr("1"), x}, {x}, {fr("1"), fr("1"), fr("1"), x}} {
			expectMeasure(t, a, frs("1 1"), frs("1 1"), l, api.Frac{}, api.ErrFrac)
			expectMeasure(t, a, frs("1"), frs("1 -1"), l, api.Frac{}, api.ErrFrac)
		}
	}
	for _, a := range invalidTables() {
		ones := slices.Repeat(frs("1"), len(a))
		expectMeasure(t, a, ones, ones, ones, api.Frac{}, api.ErrTable)
		expectMeasure(t, a, []api.Frac{{}}, nil, frs("-1"), api.Frac{}, api.ErrTable)
	}
}
