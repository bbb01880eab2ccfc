package band

import (
	"math"
	"strings"
	"testing"

	"verdigris/api"
	"verdigris/frac"
)

const (
	one  = api.OneBand
	most = api.MaxBand
)

var (
	none = api.Band{}
	all  = api.Band{Lo: -most, Hi: most}
)

func bd(lo, hi int) api.Band {
	return api.Band{Lo: lo, Hi: hi}
}

// fr returns the fraction whose parts are written with a slash between them, as they stand; D is 1 if there is none.
func fr(text string) api.Frac {
	n, d, slash := strings.Cut(text, "/")
	if !slash {
		d = "1"
	}
	return api.Frac{N: api.Whole(n), D: api.Whole(d)}
}

// tiny is the least fraction above 0, and nearly is the greatest one below 1.
var (
	nines  = api.Whole(strings.Repeat("9", api.MaxWhole))
	tiny   = api.Frac{N: "1", D: nines}
	nearly = api.Frac{N: nines[1:] + "8", D: nines}
	huge   = api.Frac{N: nines, D: "1"}
)

func invalid() []api.Band {
	return []api.Band{
		bd(1, 0), bd(0, -1), bd(most, most-1), bd(most, -most), bd(0, most+1), bd(-most-1, 0), bd(most+1, most+1), bd(-most-1, -most-1), bd(-most-1, most), bd(-most, most+1),
		bd(math.MinInt, math.MaxInt), bd(math.MaxInt, math.MinInt), bd(math.MinInt, math.MinInt), bd(math.MaxInt, math.MaxInt), bd(math.MinInt, 0), bd(0, math.MaxInt), bd(0, math.MinInt), bd(math.MaxInt, 0),
	}
}

func invalidFracs() []api.Frac {
	return []api.Frac{{}, fr("2/4"), fr("0/2"), fr("1/0"), fr("1/-1"), fr("-0"), fr("01"), fr("x"), {N: nines + "0", D: "1"}}
}

// P3.1
func TestCheckOfPoint(t *testing.T) {
	for _, b := range []api.Band{none, all, bd(most, most), bd(-most, -most), bd(-1, 0), bd(3, 3), bd(most-1, most), bd(-most, -most+1), bd(-5, 700)} {
		if e := Check(b); e != api.OK {
			t.Errorf("Check(%v): error %d", b, e)
		}
		if c, e := Of(b.Lo, b.Hi); c != b || e != api.OK {
			t.Errorf("Of(%d, %d): %v, error %d", b.Lo, b.Hi, c, e)
		}
	}
	for _, b := range invalid() {
		if e := Check(b); e != api.ErrBand {
			t.Errorf("Check(%v): error %d", b, e)
		}
		if c, e := Of(b.Lo, b.Hi); c != none || e != api.ErrBand {
			t.Errorf("Of(%d, %d): %v, error %d", b.Lo, b.Hi, c, e)
		}
	}
	for _, n := range []int{0, 1, -1, one, most, -most} {
		if b, e := Point(n); b != bd(n, n) || e != api.OK {
			t.Errorf("Point(%d): %v, error %d", n, b, e)
		}
	}
	for _, n := range []int{most + 1, -most - 1, math.MaxInt, math.MinInt} {
		if b, e := Point(n); b != none || e != api.ErrBand {
			t.Errorf("Point(%d): %v, error %d", n, b, e)
		}
	}
}

// P3.1
func TestAround(t *testing.T) {
	is := func(a api.Frac, e api.Errno) api.Frac {
		t.Helper()
		if e != api.OK {
			t.Fatalf("error %d", e)
		}
		return a
	}
	million, zero := fr("1000000"), fr("0")
	for _, x := range []struct {
		a    api.Frac
		want api.Band
		e    api.Errno
	}{
		{fr("1/3"), bd(333333333333, 333333333334), api.OK},
		{fr("-1/3"), bd(-333333333334, -333333333333), api.OK},
		{fr("2/3"), bd(666666666666, 666666666667), api.OK},
		{fr("-2/3"), bd(-666666666667, -666666666666), api.OK},
		{fr("-2"), bd(-2*one, -2*one), api.OK},
		{zero, none, api.OK},
		{fr("1/1000000000000"), bd(1, 1), api.OK},
		{fr("-7/500000000000"), bd(-14, -14), api.OK},
		{fr("1/2000000000000"), bd(0, 1), api.OK},
		{fr("-1/2000000000000"), bd(-1, 0), api.OK},
		{fr("3/2000000000000"), bd(1, 2), api.OK},
		{tiny, bd(0, 1), api.OK},
		{is(frac.Sub(zero, tiny)), bd(-1, 0), api.OK},
		{nearly, bd(one-1, one), api.OK},
		{million, bd(most, most), api.OK},
		{fr("-1000000"), bd(-most, -most), api.OK},
		{fr("1999999999999999999/2000000000000"), bd(most-1, most), api.OK},
		{fr("-1999999999999999999/2000000000000"), bd(-most, -most+1), api.OK},
		{fr("3000000000000000001/3000000000000"), none, api.ErrBig},
		{fr("-3000000000000000001/3000000000000"), none, api.ErrBig},
		{fr("2000000000000000001/2000000000000"), none, api.ErrBig},
		{fr("-2000000000000000001/2000000000000"), none, api.ErrBig},
		{fr("1000001"), none, api.ErrBig},
		{fr("-1000001"), none, api.ErrBig},
		{is(frac.Of(math.MaxInt, one)), none, api.ErrBig},
		{is(frac.Of(math.MinInt, one)), none, api.ErrBig},
		{fr("36893488147419103229/4000000000000"), none, api.ErrBig},
		{fr("-36893488147419103233/4000000000000"), none, api.ErrBig},
		{fr("10000000"), none, api.ErrBig},
		{huge, none, api.ErrBig},
		{is(frac.Neg(huge)), none, api.ErrBig},
	} {
		if b, e := Around(x.a); b != x.want || e != x.e {
			t.Errorf("Around(%.60v): %v, error %d", x.a, b, e)
		}
	}
	for _, a := range invalidFracs() {
		if b, e := Around(a); b != none || e != api.ErrFrac {
			t.Errorf("Around(%.60v): %v, error %d", a, b, e)
		}
	}
}

// P3.2
func TestHas(t *testing.T) {
	third := bd(333333333333, 333333333334)
	for _, x := range []struct {
		b    api.Band
		a    api.Frac
		want bool
	}{
		{third, fr("1/3"), true},
		{third, fr("333333333333/1000000000000"), true},
		{third, fr("166666666667/500000000000"), true},
		{third, fr("1333333333331/4000000000000"), false},
		{third, fr("1333333333337/4000000000000"), false},
		{third, fr("-1/3"), false},
		{none, fr("0"), true},
		{none, tiny, false},
		{none, fr("-1/2000000000000"), false},
		{bd(0, 1), tiny, true},
		{bd(-1, 0), tiny, false},
		{bd(1, 2), tiny, false},
		{bd(one-1, one-1), nearly, false},
		{bd(one, one), nearly, false},
		{bd(one-1, one), nearly, true},
		{all, fr("1000000"), true},
		{all, fr("-1000000"), true},
		{all, fr("2000000000000000001/2000000000000"), false},
		{all, fr("-2000000000000000001/2000000000000"), false},
		{all, huge, false},
	} {
		if has, e := Has(x.b, x.a); has != x.want || e != api.OK {
			t.Errorf("Has(%v, %.60v): %v, error %d", x.b, x.a, has, e)
		}
	}
	for _, a := range invalidFracs() {
		for _, b := range []api.Band{none, all, bd(1, 2)} {
			if has, e := Has(b, a); has || e != api.ErrFrac {
				t.Errorf("Has(%v, %.60v): %v, error %d", b, a, has, e)
			}
		}
	}
}

// P3.2
func TestEndsAndMiddle(t *testing.T) {
	for _, x := range []struct {
		b          api.Band
		low, high  string
		mid, width int
	}{
		{none, "0", "0", 0, 0},
		{bd(1, 2), "1/1000000000000", "1/500000000000", 1, 1},
		{bd(-2, -1), "-1/500000000000", "-1/1000000000000", -2, 1},
		{bd(-1, 0), "-1/1000000000000", "0", -1, 1},
		{bd(-4, 1), "-1/250000000000", "1/1000000000000", -2, 5},
		{bd(-one/2, 3*one), "-1/2", "3", 5 * one / 4, 7 * one / 2},
		{bd(most, most), "1000000", "1000000", most, 0},
		{bd(most-1, most), "999999999999999999/1000000000000", "1000000", most - 1, 1},
		{bd(-most, 1-most), "-1000000", "-999999999999999999/1000000000000", -most, 1},
		{all, "-1000000", "1000000", 0, 2 * most},
	} {
		if a, e := Low(x.b); a != fr(x.low) || e != api.OK {
			t.Errorf("Low(%v): %v, error %d", x.b, a, e)
		}
		if a, e := High(x.b); a != fr(x.high) || e != api.OK {
			t.Errorf("High(%v): %v, error %d", x.b, a, e)
		}
		if n, e := Mid(x.b); n != x.mid || e != api.OK {
			t.Errorf("Mid(%v): %d, error %d", x.b, n, e)
		}
		if n, e := Width(x.b); n != x.width || e != api.OK {
			t.Errorf("Width(%v): %d, error %d", x.b, n, e)
		}
	}
}

// P3.3
func TestSign(t *testing.T) {
	for _, x := range []struct {
		b    api.Band
		want int
	}{
		{bd(0, 0), 0}, {bd(0, 1), 2}, {bd(-1, 0), 2}, {bd(-1, 1), 2}, {bd(1, 1), 1}, {bd(1, 9), 1}, {bd(-1, -1), -1}, {bd(-9, -1), -1}, {all, 2}, {bd(most, most), 1}, {bd(-most, -most), -1},
	} {
		if n, e := Sign(x.b); n != x.want || e != api.OK {
			t.Errorf("Sign(%v): %d, error %d", x.b, n, e)
		}
	}
}

// P3.3
func TestCmp(t *testing.T) {
	for _, x := range []struct {
		a, b api.Band
		want int
	}{
		{bd(1, 2), bd(3, 4), -1},
		{bd(1, 2), bd(2, 3), 2},
		{bd(1, 1), bd(1, 1), 0},
		{none, none, 0},
		{bd(1, 2), bd(1, 2), 2},
		{bd(1, 1), bd(1, 2), 2},
		{bd(2, 2), bd(1, 2), 2},
		{bd(2, 2), bd(1, 3), 2},
		{bd(2, 2), bd(3, 3), -1},
		{bd(-2, -1), bd(0, 0), -1},
		{bd(-5, 5), bd(-1, 1), 2},
		{all, all, 2},
		{bd(most, most), bd(-most, -most), 1},
	} {
		if n, e := Cmp(x.a, x.b); n != x.want || e != api.OK {
			t.Errorf("Cmp(%v, %v): %d, error %d", x.a, x.b, n, e)
		}
		turned := x.want
		if turned != 2 {
			turned = -turned
		}
		if n, e := Cmp(x.b, x.a); n != turned || e != api.OK {
			t.Errorf("Cmp(%v, %v): %d, error %d", x.b, x.a, n, e)
		}
	}
}

type onTwo func(a, b api.Band) (api.Band, api.Errno)

func expectTwo(t *testing.T, name string, f onTwo, a, b, want api.Band, wantE api.Errno) {
	t.Helper()
	if c, e := f(a, b); c != want || e != wantE {
		t.Errorf("%s(%v, %v): %v, error %d; want %v, error %d", name, a, b, c, e, want, wantE)
	}
}

// P3.4
func TestAddSub(t *testing.T) {
	for _, x := range []struct {
		name       string
		f          onTwo
		a, b, want api.Band
		e          api.Errno
	}{
		{"Add", Add, bd(1, 2), bd(3, 5), bd(4, 7), api.OK},
		{"Add", Add, bd(-4, 2), bd(-3, -1), bd(-7, 1), api.OK},
		{"Add", Add, bd(most, most), bd(-most, 0), bd(0, most), api.OK},
		{"Add", Add, bd(most/2, most/2), bd(most/2, most/2), bd(most, most), api.OK},
		{"Add", Add, bd(0, most), bd(0, 1), none, api.ErrBig},
		{"Add", Add, bd(-most, 0), bd(-1, 0), none, api.ErrBig},
		{"Add", Add, all, all, none, api.ErrBig},
		{"Add", Add, bd(most, most), bd(most, most), none, api.ErrBig},
		{"Sub", Sub, bd(1, 2), bd(3, 5), bd(-4, -1), api.OK},
		{"Sub", Sub, bd(1, 2), bd(1, 2), bd(-1, 1), api.OK},
		{"Sub", Sub, bd(-most, most), none, all, api.OK},
		{"Sub", Sub, none, all, all, api.OK},
		{"Sub", Sub, bd(most, most), bd(most, most), none, api.OK},
		{"Sub", Sub, bd(0, most), bd(-1, 0), none, api.ErrBig},
		{"Sub", Sub, bd(-most, 0), bd(0, 1), none, api.ErrBig},
		{"Sub", Sub, bd(-most, -most), bd(most, most), none, api.ErrBig},
	} {
		expectTwo(t, x.name, x.f, x.a, x.b, x.want, x.e)
	}
}

// P3.4
func TestMulDiv(t *testing.T) {
	for _, x := range []struct {
		name       string
		f          onTwo
		a, b, want api.Band
		e          api.Errno
	}{
		{"Mul", Mul, bd(2*one, 3*one), bd(-one, 4*one), bd(-3*one, 12*one), api.OK},
		{"Mul", Mul, bd(-2*one, 3*one), bd(-5*one, 4*one), bd(-15*one, 12*one), api.OK},
		{"Mul", Mul, bd(-3*one, -2*one), bd(-5*one, -4*one), bd(8*one, 15*one), api.OK},
		{"Mul", Mul, bd(1, 1), bd(1, 1), bd(0, 1), api.OK},
		{"Mul", Mul, bd(-1, -1), bd(1, 1), bd(-1, 0), api.OK},
		{"Mul", Mul, bd(-1, -1), bd(-1, -1), bd(0, 1), api.OK},
		{"Mul", Mul, bd(-1, 1), bd(1, 1), bd(-1, 1), api.OK},
		{"Mul", Mul, none, all, none, api.OK},
		{"Mul", Mul, all, bd(-one, one), all, api.OK},
		{"Mul", Mul, bd(1000*one, 1000*one), bd(-1000*one, 1000*one), all, api.OK},
		{"Mul", Mul, bd(most, most), bd(one, one+1), none, api.ErrBig},
		{"Mul", Mul, bd(most, most), bd(-one-1, one), none, api.ErrBig},
		{"Mul", Mul, bd(1000*one, 1000*one+1), bd(1000*one, 1000*one), none, api.ErrBig},
		{"Mul", Mul, all, all, none, api.ErrBig},
		{"Mul", Mul, bd(0, most), bd(-most, 0), none, api.ErrBig},
		{"Div", Div, bd(one, one), bd(3*one, 3*one), bd(333333333333, 333333333334), api.OK},
		{"Div", Div, bd(-one, one), bd(3*one, 6*one), bd(-333333333334, 333333333334), api.OK},
		{"Div", Div, bd(one, 2*one), bd(-4*one, -one), bd(-2*one, -one/4), api.OK},
		{"Div", Div, bd(-2*one, -one), bd(-4*one, -one), bd(one/4, 2*one), api.OK},
		{"Div", Div, none, bd(1, most), none, api.OK},
		{"Div", Div, bd(1, 1), bd(most, most), bd(0, 1), api.OK},
		{"Div", Div, bd(most, most), bd(most, most), bd(one, one), api.OK},
		{"Div", Div, bd(1000000, 1000000), bd(1, 1), bd(most, most), api.OK},
		{"Div", Div, bd(-1000000, 1000000), bd(-1, -1), all, api.OK},
		{"Div", Div, bd(1000001, 1000001), bd(1, 1), none, api.ErrBig},
		{"Div", Div, bd(0, most), bd(1, 1), none, api.ErrBig},
		{"Div", Div, bd(most, most), bd(-one, 1-one), none, api.ErrBig},
		{"Div", Div, bd(one, one), bd(0, 1), none, api.ErrZero},
		{"Div", Div, bd(one, one), bd(-1, 0), none, api.ErrZero},
		{"Div", Div, bd(one, one), bd(-1, 1), none, api.ErrZero},
		{"Div", Div, none, none, none, api.ErrZero},
		{"Div", Div, all, all, none, api.ErrZero},
	} {
		expectTwo(t, x.name, x.f, x.a, x.b, x.want, x.e)
	}
}

// P3.4
func TestNegAbsSqr(t *testing.T) {
	for _, x := range []struct {
		b, neg, abs, sqr api.Band
		e                api.Errno // of the squares
	}{
		{none, none, none, none, api.OK},
		{bd(-2, 1), bd(-1, 2), bd(0, 2), bd(0, 1), api.OK},
		{bd(-1, 2), bd(-2, 1), bd(0, 2), bd(0, 1), api.OK},
		{bd(-2*one, one), bd(-one, 2*one), bd(0, 2*one), bd(0, 4*one), api.OK},
		{bd(2*one, 3*one), bd(-3*one, -2*one), bd(2*one, 3*one), bd(4*one, 9*one), api.OK},
		{bd(-3*one, -2*one), bd(2*one, 3*one), bd(2*one, 3*one), bd(4*one, 9*one), api.OK},
		{bd(-one, 0), bd(0, one), bd(0, one), bd(0, one), api.OK},
		{bd(0, one), bd(-one, 0), bd(0, one), bd(0, one), api.OK},
		{bd(1500000, 1500000), bd(-1500000, -1500000), bd(1500000, 1500000), bd(2, 3), api.OK},
		{bd(-1500000, -1500000), bd(1500000, 1500000), bd(1500000, 1500000), bd(2, 3), api.OK},
		{bd(-1000*one, 1), bd(-1, 1000*one), bd(0, 1000*one), bd(0, most), api.OK},
		{bd(-1000*one-1, 0), bd(0, 1000*one+1), bd(0, 1000*one+1), none, api.ErrBig},
		{bd(0, 1000*one+1), bd(-1000*one-1, 0), bd(0, 1000*one+1), none, api.ErrBig},
		{all, all, bd(0, most), none, api.ErrBig},
		{bd(-most, -1), bd(1, most), bd(1, most), none, api.ErrBig},
	} {
		if c, e := Neg(x.b); c != x.neg || e != api.OK {
			t.Errorf("Neg(%v): %v, error %d", x.b, c, e)
		}
		if c, e := Abs(x.b); c != x.abs || e != api.OK {
			t.Errorf("Abs(%v): %v, error %d", x.b, c, e)
		}
		if c, e := Sqr(x.b); c != x.sqr || e != x.e {
			t.Errorf("Sqr(%v): %v, error %d", x.b, c, e)
		}
	}
}

// P3.4
func TestScale(t *testing.T) {
	for _, x := range []struct {
		b    api.Band
		n, d int
		want api.Band
		e    api.Errno
	}{
		{bd(1, 1), 1, 2, bd(0, 1), api.OK},
		{bd(1, 1), -1, 2, bd(-1, 0), api.OK},
		{bd(-3, 5), 1, 2, bd(-2, 3), api.OK},
		{bd(-3, 5), -1, 2, bd(-3, 2), api.OK},
		{bd(-4, 6), -1, 2, bd(-3, 2), api.OK},
		{bd(-3, 5), 0, 7, none, api.OK},
		{bd(7, 8), 3, 1, bd(21, 24), api.OK},
		{all, api.MaxRatio, api.MaxRatio, all, api.OK},
		{all, -api.MaxRatio, api.MaxRatio, all, api.OK},
		{all, 0, 1, none, api.OK},
		{bd(-1000000, 1000000), api.MaxRatio, 1, all, api.OK},
		{bd(1, 1), 1, api.MaxRatio, bd(0, 1), api.OK},
		{bd(-1000001, 0), api.MaxRatio, 1, none, api.ErrBig},
		{bd(-1000001, 0), -api.MaxRatio, 1, none, api.ErrBig},
		{bd(0, most), api.MaxRatio, api.MaxRatio - 1, none, api.ErrBig},
		{all, api.MaxRatio, 1, none, api.ErrBig},
		{bd(1, 1), 1, 0, none, api.ErrArg},
		{bd(1, 1), 1, -1, none, api.ErrArg},
		{bd(1, 1), 0, 0, none, api.ErrArg},
		{all, api.MaxRatio, 0, none, api.ErrArg},
		{bd(1, 1), 1, api.MaxRatio + 1, none, api.ErrArg},
		{bd(1, 1), api.MaxRatio + 1, 1, none, api.ErrArg},
		{bd(1, 1), -api.MaxRatio - 1, 1, none, api.ErrArg},
		{bd(1, 1), math.MinInt, math.MinInt, none, api.ErrArg},
		{bd(1, 1), math.MaxInt, math.MaxInt, none, api.ErrArg},
	} {
		if c, e := Scale(x.b, x.n, x.d); c != x.want || e != x.e {
			t.Errorf("Scale(%v, %d, %d): %v, error %d", x.b, x.n, x.d, c, e)
		}
	}
}

// P3.5
func TestMinMaxHullMeet(t *testing.T) {
	for _, x := range []struct {
		a, b, min, max, hull, meet api.Band
		e                          api.Errno // of the meet
	}{
		{bd(1, 5), bd(2, 3), bd(1, 3), bd(2, 5), bd(1, 5), bd(2, 3), api.OK},
		{bd(1, 2), bd(5, 6), bd(1, 2), bd(5, 6), bd(1, 6), none, api.ErrNone},
		{bd(1, 2), bd(3, 4), bd(1, 2), bd(3, 4), bd(1, 4), none, api.ErrNone},
		{bd(1, 2), bd(2, 3), bd(1, 2), bd(2, 3), bd(1, 3), bd(2, 2), api.OK},
		{bd(1, 4), bd(2, 6), bd(1, 4), bd(2, 6), bd(1, 6), bd(2, 4), api.OK},
		{bd(7, 7), bd(7, 7), bd(7, 7), bd(7, 7), bd(7, 7), bd(7, 7), api.OK},
		{bd(-3, -1), bd(-2, 0), bd(-3, -1), bd(-2, 0), bd(-3, 0), bd(-2, -1), api.OK},
		{all, none, bd(-most, 0), bd(0, most), all, none, api.OK},
		{bd(-most, -most), bd(most, most), bd(-most, -most), bd(most, most), all, none, api.ErrNone},
	} {
		for _, p := range [][2]api.Band{{x.a, x.b}, {x.b, x.a}} {
			expectTwo(t, "Min", Min, p[0], p[1], x.min, api.OK)
			expectTwo(t, "Max", Max, p[0], p[1], x.max, api.OK)
			expectTwo(t, "Hull", Hull, p[0], p[1], x.hull, api.OK)
			expectTwo(t, "Meet", Meet, p[0], p[1], x.meet, x.e)
		}
	}
}

// P3.5
func TestClamp(t *testing.T) {
	for _, x := range []struct {
		b      api.Band
		lo, hi int
		want   api.Band
		e      api.Errno
	}{
		{bd(-5, 5), 0, 3, bd(0, 3), api.OK},
		{bd(1, 2), 0, 3, bd(1, 2), api.OK},
		{bd(-5, 2), 0, 3, bd(0, 2), api.OK},
		{bd(1, 5), 0, 3, bd(1, 3), api.OK},
		{bd(-5, -1), 0, 3, bd(0, 0), api.OK},
		{bd(4, 9), 0, 3, bd(3, 3), api.OK},
		{bd(4, 9), 6, 6, bd(6, 6), api.OK},
		{all, -most, most, all, api.OK},
		{all, most, most, bd(most, most), api.OK},
		{all, -most, -most, bd(-most, -most), api.OK},
		{bd(1, 2), 1, 0, none, api.ErrArg},
		{bd(1, 2), -most - 1, 0, none, api.ErrArg},
		{bd(1, 2), 0, most + 1, none, api.ErrArg},
		{bd(1, 2), most + 1, most + 1, none, api.ErrArg},
		{bd(1, 2), -most - 1, -most - 1, none, api.ErrArg},
		{bd(1, 2), math.MinInt, math.MaxInt, none, api.ErrArg},
		{bd(1, 2), math.MaxInt, math.MinInt, none, api.ErrArg},
	} {
		if c, e := Clamp(x.b, x.lo, x.hi); c != x.want || e != x.e {
			t.Errorf("Clamp(%v, %d, %d): %v, error %d", x.b, x.lo, x.hi, c, e)
		}
	}
}

// An invalid band is found before all other errors, and with an error there is no result (P1, R2).
func TestInvalidBand(t *testing.T) {
	for _, b := range invalid() {
		fail := func(name string, e api.Errno, zero bool) {
			t.Helper()
			if e != api.ErrBand || !zero {
				t.Errorf("%s of %v: error %d, result is zero: %v", name, b, e, zero)
			}
		}
		for name, f := range map[string]func(api.Band) (int, api.Errno){"Mid": Mid, "Width": Width, "Sign": Sign} {
			n, e := f(b)
			fail(name, e, n == 0)
		}
		for name, f := range map[string]func(api.Band) (api.Frac, api.Errno){"Low": Low, "High": High} {
			a, e := f(b)
			fail(name, e, a == api.Frac{})
		}
		for name, f := range map[string]func(api.Band) (api.Band, api.Errno){"Neg": Neg, "Abs": Abs, "Sqr": Sqr} {
			c, e := f(b)
			fail(name, e, c == none)
		}
		for _, a := range append(invalidFracs(), fr("0"), huge) {
			has, e := Has(b, a)
			fail("Has", e, !has)
		}
		for _, n := range []int{0, 1, -most, most, math.MinInt, math.MaxInt} {
			for _, d := range []int{0, 1, -1, most, math.MinInt, math.MaxInt} {
				c, e := Scale(b, n, d)
				fail("Scale", e, c == none)
				c, e = Clamp(b, n, d)
				fail("Clamp", e, c == none)
			}
		}
		for _, c := range []api.Band{none, all, bd(1, 2), bd(-1, 1), bd(most, most), b} {
			for _, p := range [][2]api.Band{{b, c}, {c, b}} {
				n, e := Cmp(p[0], p[1])
				fail("Cmp", e, n == 0)
				for name, f := range map[string]onTwo{"Add": Add, "Sub": Sub, "Mul": Mul, "Div": Div, "Min": Min, "Max": Max, "Hull": Hull, "Meet": Meet} {
					r, e := f(p[0], p[1])
					fail(name, e, r == none)
				}
			}
		}
	}
}
