package matrix

import (
	"math"
	"slices"
	"strings"
	"testing"

	"verdigris/api"
)

const (
	one  = api.OneBand
	most = api.MaxBand
)

// fr returns the fraction whose parts are written with a slash between them, as they stand; D is 1 if there is none.
func fr(text string) api.Frac {
	n, d, slash := strings.Cut(text, "/")
	if !slash {
		d = "1"
	}
	return api.Frac{N: api.Whole(n), D: api.Whole(d)}
}

// frs returns the fractions that are written with spaces between them.
func frs(texts string) []api.Frac {
	var l []api.Frac
	for _, text := range strings.Fields(texts) {
		l = append(l, fr(text))
	}
	return l
}

// mat returns the matrix whose rows are written with semicolons between them; a text without a number stands for no rows.
func mat(texts string) api.Mat {
	if texts == "" {
		return nil
	}
	var m api.Mat
	for _, text := range strings.Split(texts, ";") {
		m = append(m, frs(text))
	}
	return m
}

// tenTo returns the digits of a power of 10.
func tenTo(n int) string {
	return "1" + strings.Repeat("0", n)
}

// nines has as many digits as a part of a fraction can have.
var nines = strings.Repeat("9", api.MaxWhole)

func bd(lo, hi int) api.Band {
	return api.Band{Lo: lo, Hi: hi}
}

func point(n int) api.Band {
	return bd(n, n)
}

func invalidFracs() []api.Frac {
	return []api.Frac{{}, fr("2/4"), fr("0/2"), fr("1/0"), fr("1/-1"), fr("-0"), fr("01"), fr("x"), {N: "1"}, fr(tenTo(api.MaxWhole)), fr("1/" + tenTo(api.MaxWhole))}
}

func invalidBands() []api.Band {
	return []api.Band{bd(1, 0), bd(0, -1), bd(0, most+1), point(most + 1), bd(-most-1, 0), bd(math.MinInt, math.MaxInt), bd(math.MaxInt, math.MinInt)}
}

// invalidMats returns matrices with a wrong number of rows or columns, or with one wrong element.
func invalidMats() []api.Mat {
	l := []api.Mat{
		nil, {}, {nil}, {{}}, {nil, nil}, mat("1; 2; 3; 4; 5"), mat("1 2 3 4 5"), mat("1 2 3 4 5; 1 2 3 4 5; 1 2 3 4 5; 1 2 3 4 5; 1 2 3 4 5"),
		mat("1; 1 2"), mat("1 2; 1"), mat("1 2; 1 2; 1 2 3"), {frs("1 2"), nil}, {nil, frs("1 2")}, {frs("1"), {}}, mat("1 2 3 4; 1 2 3 4 5"),
		make(api.Mat, 100000), {make([]api.Frac, 100000)},
	}
	for _, a := range invalidFracs() {
		l = append(l, api.Mat{{a}})
		for i := range 12 {
			m := mat("1 2 3 4; 5 6 7 8; 9 10 11 12")
			m[i/4][i%4] = a
			l = append(l, m)
		}
		m := mat("1 2; 3 4")
		m[1][1] = a
		l = append(l, m)
	}
	return l
}

func expectMat(t *testing.T, name string, m api.Mat, e api.Errno, want api.Mat, wantE api.Errno) {
	t.Helper()
	if !slices.EqualFunc(m, want, slices.Equal[[]api.Frac]) || e != wantE || wantE != api.OK && m != nil {
		t.Errorf("%s: %.200v, error %d; want %.200v, error %d", name, m, e, want, wantE)
	}
}

// P5.1
func TestCheck(t *testing.T) {
	for _, m := range []api.Mat{mat("0"), mat("-1/2"), mat("1 2 3 4"), mat("1; 2; 3; 4"), mat("1 2; 3 4; 5 6"), mat("0 0 0 0; 0 0 0 0; 0 0 0 0; 0 0 0 0"), mat("-" + nines + " 1/" + nines)} {
		if e := Check(m); e != api.OK {
			t.Errorf("Check(%v): error %d", m, e)
		}
	}
	for _, m := range invalidMats() {
		if e := Check(m); e != api.ErrMat {
			t.Errorf("Check(%.200v): error %d", m, e)
		}
	}
}

// P5.1
func TestSame(t *testing.T) {
	for _, x := range []struct {
		a, b api.Mat
		want bool
	}{
		{mat("1"), mat("1"), true},
		{mat("1 2; 3 -4/5"), mat("1 2; 3 -4/5"), true},
		{nil, nil, true},
		{nil, api.Mat{}, true},
		{api.Mat{nil}, api.Mat{{}}, true},
		{api.Mat{nil, frs("1")}, api.Mat{{}, frs("1")}, true},
		{mat("2/4 x/y; 1"), mat("2/4 x/y; 1"), true},
		{mat("1 2 3 4 5; 1; 2"), mat("1 2 3 4 5; 1; 2"), true},
		{make(api.Mat, 100), make(api.Mat, 100), true},
		{nil, api.Mat{nil}, false},
		{mat("1"), mat("2"), false},
		{mat("1"), mat("-1"), false},
		{mat("1/2"), mat("1/3"), false},
		{mat("1/2"), mat("2/4"), false},
		{mat("0"), mat("0/2"), false},
		{mat("1"), mat("01"), false},
		{mat("1 2"), mat("1; 2"), false},
		{mat("1 2"), mat("1"), false},
		{mat("1"), mat("1 2"), false},
		{mat("1; 2"), mat("1"), false},
		{mat("1"), mat("1; 2"), false},
		{mat("1 2; 3 4"), mat("1 2; 3 5"), false},
		{mat("1 2; 3 4"), mat("1 3; 2 4"), false},
		{mat("1 2; 3 4"), mat("3 4; 1 2"), false},
		{mat("1 2; 3"), mat("1; 2 3"), false},
	} {
		if same := Same(x.a, x.b); same != x.want {
			t.Errorf("Same(%v, %v): %v", x.a, x.b, same)
		}
	}
}

// P5.1
func TestIdentity(t *testing.T) {
	for n, want := range []string{"", "1", "1 0; 0 1", "1 0 0; 0 1 0; 0 0 1", "1 0 0 0; 0 1 0 0; 0 0 1 0; 0 0 0 1"} {
		if n > 0 {
			m, e := Identity(n)
			expectMat(t, "Identity", m, e, mat(want), api.OK)
		}
	}
	for _, n := range []int{math.MinInt, -1, 0, 5, 16, math.MaxInt} {
		m, e := Identity(n)
		expectMat(t, "Identity", m, e, nil, api.ErrArg)
	}
}

// P5.1: ErrArg comes before ErrFrac.
func TestDiagonal(t *testing.T) {
	for _, x := range []struct{ l, want string }{
		{"2 3", "2 0; 0 3"},
		{"-1/2", "-1/2"},
		{"0 0", "0 0; 0 0"},
		{"1 0 -2/3 " + nines, "1 0 0 0; 0 0 0 0; 0 0 -2/3 0; 0 0 0 " + nines},
	} {
		m, e := Diagonal(frs(x.l))
		expectMat(t, "Diagonal", m, e, mat(x.want), api.OK)
	}
	for _, l := range [][]api.Frac{nil, {}, frs("1 2 3 4 5"), make([]api.Frac, 5), make([]api.Frac, 100000)} {
		m, e := Diagonal(l)
		expectMat(t, "Diagonal", m, e, nil, api.ErrArg)
	}
	for _, a := range invalidFracs() {
		for i := range 4 {
			l := frs("1 2 3 4")
			l[i] = a
			m, e := Diagonal(l)
			expectMat(t, "Diagonal", m, e, nil, api.ErrFrac)
		}
	}
}

// P5.1
func TestTranspose(t *testing.T) {
	for _, x := range []struct{ m, want string }{
		{"1 2 3", "1; 2; 3"},
		{"1; 2; 3; 4", "1 2 3 4"},
		{"1/2", "1/2"},
		{"1 2; 3 4", "1 3; 2 4"},
		{"1 2 3 -4/5; 5 6 7 8; 9 10 11 12", "1 5 9; 2 6 10; 3 7 11; -4/5 8 12"},
		{nines + " 1/" + nines, nines + "; 1/" + nines},
	} {
		m, e := Transpose(mat(x.m))
		expectMat(t, "Transpose", m, e, mat(x.want), api.OK)
	}
}

// P5.2
func TestMul(t *testing.T) {
	for _, x := range []struct{ a, b, want string }{
		{"1 2; 3 4", "0 1; 1 0", "2 1; 4 3"},
		{"0 1; 1 0", "1 2; 3 4", "3 4; 1 2"},
		{"2/3", "-3/4", "-1/2"},
		{"1 2 3 4", "5; 6; 7; 8", "70"},
		{"5; 6; 7; 8", "1 2 3 4", "5 10 15 20; 6 12 18 24; 7 14 21 28; 8 16 24 32"},
		{"1/2 1/3; 1 -1; 0 1/6", "1/2 1 0 -1; 3 0 1 1/4", "5/4 1/2 1/3 -5/12; -5/2 1 -1 -5/4; 1/2 0 1/6 1/24"},
		{"0 0; 0 0", "1/7 2; 3 4", "0 0; 0 0"},
	} {
		m, e := Mul(mat(x.a), mat(x.b))
		expectMat(t, "Mul", m, e, mat(x.want), api.OK)
	}
}

// P5.2: ErrMat comes before ErrArg.
func TestMulErrors(t *testing.T) {
	for _, x := range []struct{ a, b string }{{"1 2", "1 2"}, {"1", "1; 2"}, {"1; 2", "1; 2"}, {"1 2 3", "1 2; 3 4"}, {"1 2; 3 4", "1 2 3"}, {"1 2 3 4", "1 2 3 4"}} {
		m, e := Mul(mat(x.a), mat(x.b))
		expectMat(t, "Mul", m, e, nil, api.ErrArg)
	}
	for _, bad := range invalidMats() {
		for _, good := range []api.Mat{mat("1"), mat("1 2; 3 4"), mat("1 2 3; 4 5 6"), bad} {
			m, e := Mul(bad, good)
			expectMat(t, "Mul", m, e, nil, api.ErrMat)
			m, e = Mul(good, bad)
			expectMat(t, "Mul", m, e, nil, api.ErrMat)
		}
	}
}

func expectApply(t *testing.T, m api.Mat, l, want []api.Frac, wantE api.Errno) {
	t.Helper()
	results, e := Apply(m, l)
	if !slices.Equal(results, want) || e != wantE || wantE != api.OK && results != nil {
		t.Errorf("Apply(%.200v, %.200v): %.200v, error %d; want %.200v, error %d", m, l, results, e, want, wantE)
	}
}

// P5.2
func TestApply(t *testing.T) {
	for _, x := range []struct{ m, l, want string }{
		{"1 2; 3 4", "1/2 1/3", "7/6 17/6"},
		{"1/2 1/2; 1 -1", "1/2 1/4", "3/8 1/4"},
		{"2", "-3/4", "-3/2"},
		{"1; 2; 3; -4/5", "1/2", "1/2 1 3/2 -2/5"},
		{"1 2 3 4", "5 6 7 8", "70"},
		{"0 0 0", "1/7 1/11 1/13", "0"},
	} {
		expectApply(t, mat(x.m), frs(x.l), frs(x.want), api.OK)
	}
}

// P5.2: ErrMat comes before ErrFrac, and ErrFrac before ErrArg.
func TestApplyErrors(t *testing.T) {
	for _, x := range []struct{ m, l string }{{"1 2", "1"}, {"1 2", ""}, {"1 2", "1 2 3"}, {"1; 2", "1 2"}, {"1 2 3 4", "1 2 3 4 5"}} {
		expectApply(t, mat(x.m), frs(x.l), nil, api.ErrArg)
	}
	for _, a := range invalidFracs() {
		expectApply(t, mat("1 2"), []api.Frac{a, fr("1")}, nil, api.ErrFrac)
		expectApply(t, mat("1 2"), []api.Frac{fr("1"), a}, nil, api.ErrFrac)
		expectApply(t, mat("1 2"), []api.Frac{a}, nil, api.ErrFrac)
		expectApply(t, mat("1 2"), []api.Frac{fr("1"), fr("2"), a}, nil, api.ErrFrac)
		expectApply(t, mat("1 2; 1"), []api.Frac{a, fr("1")}, nil, api.ErrMat)
	}
	for _, m := range invalidMats() {
		expectApply(t, m, frs("1 2"), nil, api.ErrMat)
		expectApply(t, m, nil, nil, api.ErrMat)
	}
}

// The limit of digits is that of the results alone (P5.2).
func TestLongProducts(t *testing.T) {
	long := tenTo(599)
	for _, x := range []struct{ row, l, want string }{
		{long + " -" + long + " 1/3", long + " " + long + " 3/7", "1/7"},
		{"1/" + nines + " -1/" + nines + " 2", "1/7 1/7 5", "10"},
		{nines, "1/" + nines, "1"},
		{nines + " 1", "1 0", nines},
		{nines + " 1 -1", "1 1 1", nines},
		{"-" + nines + " 1 2", "1 1 -1/2", "-" + nines},
		{"1/" + nines + " 1/7", "1 0", "1/" + nines},
	} {
		row, l := frs(x.row), frs(x.l)
		expectApply(t, api.Mat{row}, l, frs(x.want), api.OK)
		column, _ := Transpose(api.Mat{l})
		m, e := Mul(api.Mat{row}, column)
		expectMat(t, "Mul", m, e, mat(x.want), api.OK)
	}
	for _, x := range []struct{ row, l string }{
		{nines + " 1", "1 1"}, {"-" + nines + " -1", "1 1"}, {tenTo(300), tenTo(300)}, {"1/" + tenTo(300), "1/" + tenTo(300)}, {"1/" + nines + " 1/2", "1 1/2"}, {"1/" + nines + " 1", "1 1"}, {long + " 1", long + " -1"},
	} {
		row, l := frs(x.row), frs(x.l)
		expectApply(t, api.Mat{slices.Repeat(frs("0"), len(l)), row}, l, nil, api.ErrBig)
		column, _ := Transpose(api.Mat{l})
		m, e := Mul(api.Mat{slices.Repeat(frs("1"), len(l)), row}, column)
		expectMat(t, "Mul", m, e, nil, api.ErrBig)
	}
}

func expectDet(t *testing.T, m api.Mat, want api.Frac, wantE api.Errno) {
	t.Helper()
	if a, e := Det(m); a != want || e != wantE {
		t.Errorf("Det(%.200v): %.200v, error %d; want %.200v, error %d", m, a, e, want, wantE)
	}
}

func expectInverse(t *testing.T, m, want api.Mat, wantE api.Errno) {
	t.Helper()
	inverse, e := Inverse(m)
	expectMat(t, "Inverse", inverse, e, want, wantE)
}

// P5.3: among these are matrices whose rows have to be exchanged once, twice or three times.
func TestDetInverse(t *testing.T) {
	for _, x := range []struct{ m, det, inverse string }{
		{"1 2; 3 4", "-2", "-2 1; 3/2 -1/2"},
		{"-2/3", "-2/3", "-3/2"},
		{"1", "1", "1"},
		{"0 1; 1 0", "-1", "0 1; 1 0"},
		{"0 2; 3 4", "-6", "-2/3 1/3; 1/2 0"},
		{"1/2 1/3; 1/4 1/5", "1/60", "12 -20; -15 30"},
		{"1 0 0; 0 1 0; 0 0 1", "1", "1 0 0; 0 1 0; 0 0 1"},
		{"0 0 1; 1 0 0; 0 1 0", "1", "0 1 0; 0 0 1; 1 0 0"},
		{"2 0 0; 0 3 0; 0 0 -1/4", "-3/2", "1/2 0 0; 0 1/3 0; 0 0 -4"},
		{"1 1 0; 1 1 1; 0 1 1", "-1", "0 1 -1; 1 -1 1; -1 1 0"},
		{"0 0 0 1; 0 0 1 0; 0 1 0 0; 1 0 0 0", "1", "0 0 0 1; 0 0 1 0; 0 1 0 0; 1 0 0 0"},
		{"0 1 0 0; 0 0 1 0; 0 0 0 1; 1 0 0 0", "-1", "0 0 0 1; 1 0 0 0; 0 1 0 0; 0 0 1 0"},
		{"1 2 3 4; 0 1 2 3; 0 0 1 2; 0 0 0 1", "1", "1 -2 1 0; 0 1 -2 1; 0 0 1 -2; 0 0 0 1"},
		{"1 1/2 1/3 1/4; 1/2 1/3 1/4 1/5; 1/3 1/4 1/5 1/6; 1/4 1/5 1/6 1/7", "1/6048000", "16 -120 240 -140; -120 1200 -2700 1680; 240 -2700 6480 -4200; -140 1680 -4200 2800"},
	} {
		expectDet(t, mat(x.m), fr(x.det), api.OK)
		expectInverse(t, mat(x.m), mat(x.inverse), api.OK)
	}
}

// P5.3: the determinant is 0 from the first column on, or only in the last one.
func TestSingular(t *testing.T) {
	for _, m := range []string{
		"0", "1 2; 2 4", "0 0; 0 0", "0 1; 0 2", "0 0; 1 2", "1 0; 2 0", "1/2 1/3; 3/4 1/2", "1 2 3; 4 5 6; 7 8 9", "0 1 2; 0 3 4; 0 5 6", "1 2 3; 1 2 4; 1 2 5",
		"1 0 0 0; 0 1 0 0; 0 0 1 0; 0 0 0 0", "1 2 3 4; 5 6 7 8; 9 10 11 12; 13 14 15 16", "0 0 0 0; 0 0 0 0; 0 0 0 0; 0 0 0 0", "1 0 0 1; 0 1 0 1; 0 0 1 1; 1 1 1 3",
		nines + " 1; " + nines + " 1", "1/" + nines + " 1/7; 2/" + nines + " 2/7",
	} {
		expectDet(t, mat(m), fr("0"), api.OK)
		expectInverse(t, mat(m), nil, api.ErrZero)
	}
}

// The limit of digits is that of the result alone (P5.3).
func TestLongDeterminants(t *testing.T) {
	half, long, tiny := tenTo(300), tenTo(599), "1/"+nines
	for _, x := range []struct {
		m, det string
		e      api.Errno
	}{
		{nines, nines, api.OK},
		{tiny, tiny, api.OK},
		{nines + " 0; 0 " + tiny, "1", api.OK},
		{nines + " " + nines + "; 1 2", nines, api.OK},
		{nines + " 0; 1 2", "", api.ErrBig},
		{half + " 0; 0 " + tenTo(299), long, api.OK},
		{half + " 0; 0 " + half, "", api.ErrBig},
		{half + " 0; 0 -1/" + half, "-1", api.OK},
		{"1/" + half + " 0; 0 1/" + half, "", api.ErrBig},
		{long + " 1; 1 0", "-1", api.OK},
		{long + " " + long + " 0; " + long + " 0 1; 0 1 0", "-" + long, api.OK},
		{long + " 0 0 0; 0 " + long + " 0 0; 0 0 1/" + long + " 0; 0 0 0 3/" + long, "3", api.OK},
	} {
		want := api.Frac{}
		if x.e == api.OK {
			want = fr(x.det)
		}
		expectDet(t, mat(x.m), want, x.e)
	}
}

// The limit of digits is that of the results alone (P5.3).
func TestLongInverses(t *testing.T) {
	half, long, tiny := tenTo(300), tenTo(599), "1/"+nines
	for _, x := range []struct {
		m, inverse string
		e          api.Errno
	}{
		{nines, tiny, api.OK},
		{"-" + tiny, "-" + nines, api.OK},
		{nines + " 0; 0 " + tiny, tiny + " 0; 0 " + nines, api.OK},
		{half + " 0; 0 " + half, "1/" + half + " 0; 0 1/" + half, api.OK}, // the determinant has too many digits
		{long + " 1; 1 0", "0 1; 1 -" + long, api.OK},
		{"1 " + half + "; 0 1/" + half, "", api.ErrBig},
		{"1 " + half + "; 0 1", "1 -" + half + "; 0 1", api.OK},
		{"1 " + long + "; 0 1/10", "", api.ErrBig},
		{nines + " 1; 1 1", "", api.OK},
		{nines + " 1; 1 -1", "", api.ErrBig},
	} {
		want := mat(x.inverse)
		if x.e == api.OK && want == nil { // the determinant is 9.. - 1
			under := "/" + nines[1:] + "8"
			want = mat("1" + under + " -1" + under + "; -1" + under + " " + nines + under)
		}
		expectInverse(t, mat(x.m), want, x.e)
	}
}

// P5.3: ErrMat comes before ErrArg, and ErrArg before ErrZero and ErrBig.
func TestDetInverseErrors(t *testing.T) {
	for _, m := range []string{"1 2", "1; 2", "0 0", "0; 0", "1 2 3; 4 5 6", "1 2; 3 4; 5 6", "1 2 3 4", "1 2 3 4; 0 0 0 0; 0 0 0 0", nines + " 2"} {
		expectDet(t, mat(m), api.Frac{}, api.ErrArg)
		expectInverse(t, mat(m), nil, api.ErrArg)
	}
	for _, m := range invalidMats() {
		expectDet(t, m, api.Frac{}, api.ErrMat)
		expectInverse(t, m, nil, api.ErrMat)
		transposed, e := Transpose(m)
		expectMat(t, "Transpose", transposed, e, nil, api.ErrMat)
	}
}

func expectBands(t *testing.T, m api.Mat, l, want []api.Band, wantE api.Errno) {
	t.Helper()
	results, e := Bands(m, l)
	if !slices.Equal(results, want) || e != wantE || wantE != api.OK && results != nil {
		t.Errorf("Bands(%.200v, %.200v): %.200v, error %d; want %.200v, error %d", m, l, results, e, want, wantE)
	}
}

// P5.4
func TestBands(t *testing.T) {
	for _, x := range []struct {
		m       string
		l, want []api.Band
	}{
		{"1/3 1", []api.Band{point(one), {}}, []api.Band{bd(333333333333, 333333333334)}},
		{"1 2; 3 4", []api.Band{point(one), point(2 * one)}, []api.Band{point(5 * one), point(11 * one)}},
		{"-1/2", []api.Band{bd(-one, 3*one)}, []api.Band{bd(-3*one/2, one/2)}},
		{"1; 0; -1/3; 1/" + nines, []api.Band{bd(0, one)}, []api.Band{bd(0, one), {}, bd(-333333333334, 0), bd(0, 1)}},
		{"1/2 1/2 1/2 1/2", []api.Band{point(1), point(1), point(1), point(1)}, []api.Band{bd(0, 4)}}, // each product is rounded by itself
		{"1/3 -1/3", []api.Band{point(one), point(one)}, []api.Band{bd(-1, 1)}},
		{"1000000 -1000000 1", []api.Band{point(one), point(one), bd(-most, most)}, []api.Band{bd(-most, most)}},
	} {
		expectBands(t, mat(x.m), x.l, x.want, api.OK)
	}
}

// P5.4: the operations are those of package band, each of which may lead to no valid band.
func TestBandsTooBig(t *testing.T) {
	for _, x := range []struct {
		m string
		l []api.Band
	}{
		{"1000001", []api.Band{{}}},
		{nines, []api.Band{{}}},
		{"0 -2000000", []api.Band{point(1), {}}},
		{"1000000", []api.Band{bd(0, one+1)}},
		{"1 1", []api.Band{point(most), point(1)}},
		{"1 1 -1", []api.Band{point(most), point(1), point(1)}}, // the sums are made from the left
		{"1 1 -1", []api.Band{point(-most), point(-1), point(-1)}},
		{"0; 1; 1000001", []api.Band{point(1)}},
	} {
		expectBands(t, mat(x.m), x.l, nil, api.ErrBig)
	}
	expectBands(t, mat("1 -1 1"), []api.Band{point(most), point(1), point(1)}, []api.Band{point(most)}, api.OK)
	expectBands(t, mat("1000000"), []api.Band{point(one)}, []api.Band{point(most)}, api.OK)
}

// P5.4: ErrMat comes before ErrBand, ErrBand before ErrArg, and ErrArg before ErrBig.
func TestBandsErrors(t *testing.T) {
	for _, x := range []struct {
		m string
		n int
	}{{"1 2", 1}, {"1 2", 0}, {"1 2", 3}, {"1; 2", 2}, {"1 2 3 4", 5}, {nines, 2}} {
		expectBands(t, mat(x.m), make([]api.Band, x.n), nil, api.ErrArg)
	}
	for _, b := range invalidBands() {
		for _, l := range [][]api.Band{{b}, {b, {}}, {{}, b}, {{}, {}, b}} {
			expectBands(t, mat("1 2"), l, nil, api.ErrBand)
			expectBands(t, mat(nines+" 2"), l, nil, api.ErrBand)
			expectBands(t, mat("1 2; 1"), l, nil, api.ErrMat)
		}
	}
	for _, m := range invalidMats() {
		expectBands(t, m, make([]api.Band, 2), nil, api.ErrMat)
		expectBands(t, m, nil, nil, api.ErrMat)
	}
}
