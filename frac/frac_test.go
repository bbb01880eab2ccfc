package frac

import (
	"math"
	"strings"
	"testing"

	"verdigris/api"
)

// The greatest whole number of MaxWhole digits, its negative, 10^599 and 10^600, which has a digit too many.
var (
	greatest = api.Whole(strings.Repeat("9", api.MaxWhole))
	least    = "-" + greatest
	hundreds = tenToThe(api.MaxWhole - 1)
	tooLong  = tenToThe(api.MaxWhole)
)

func tenToThe(n int) api.Whole {
	return api.Whole("1" + strings.Repeat("0", n))
}

// fr returns the fraction whose parts are written with a slash between them, as they stand; D is 1 if there is none.
func fr(text string) api.Frac {
	n, d, slash := strings.Cut(text, "/")
	if !slash {
		d = "1"
	}
	return api.Frac{N: api.Whole(n), D: api.Whole(d)}
}

func frs(texts ...string) []api.Frac {
	l := make([]api.Frac, len(texts))
	for i, text := range texts {
		l[i] = fr(text)
	}
	return l
}

var (
	none = api.Frac{}
	most = api.Frac{N: greatest, D: "1"}
	tiny = api.Frac{N: "1", D: greatest}
)

func invalid() []api.Frac {
	l := frs("2/4", "-2/4", "0/2", "0/0", "1/0", "1/-1", "-1/-2", "0/-1", "-0/1", "01/2", "1/02", "+1/2", "1/+2", " 1/2", "1/2 ", "/2", "1/", "-/1", "1.0/1", "a/1", "1/b", "6/9", "1/2/3")
	whole, under := fr("1"), fr("1")
	whole.N, under.D = tooLong, tooLong
	return append(l, none, whole, under, api.Frac{N: "1", D: least}, api.Frac{N: greatest, D: "9"}, api.Frac{N: "3", D: greatest}, api.Frac{N: api.Whole(strings.Repeat("1", 1000000)), D: "1"})
}

// P2.1
func TestCheck(t *testing.T) {
	for _, a := range append(frs("0/1", "1/1", "-1/1", "1/2", "-3/2", "65535/65534", "18446744073709551616/18446744073709551615"), most, tiny, fr(string(least)), api.Frac{N: least, D: hundreds}) {
		if e := Check(a); e != api.OK {
			t.Errorf("Check(%v): error %d", a, e)
		}
	}
	for _, a := range invalid() {
		if e := Check(a); e != api.ErrFrac {
			t.Errorf("Check(%.40v): error %d", a, e)
		}
	}
}

// P2.1
func TestMake(t *testing.T) {
	for _, x := range []struct {
		n, d api.Whole
		want api.Frac
		e    api.Errno
	}{
		{"6", "-4", fr("-3/2"), api.OK},
		{"-6", "-4", fr("3/2"), api.OK},
		{"-6", "4", fr("-3/2"), api.OK},
		{"0", "5", fr("0"), api.OK},
		{"0", "-5", fr("0"), api.OK},
		{"7", "7", fr("1"), api.OK},
		{least, greatest, fr("-1"), api.OK},
		{greatest, least, fr("-1"), api.OK},
		{"1", least, api.Frac{N: "-1", D: greatest}, api.OK},
		{hundreds, "10", api.Frac{N: tenToThe(598), D: "1"}, api.OK},
		{"9", greatest, api.Frac{N: "1", D: api.Whole(strings.Repeat("1", 600))}, api.OK},
		{"1", "0", none, api.ErrZero},
		{"0", "0", none, api.ErrZero},
		{"x", "0", none, api.ErrWhole},
		{"01", "1", none, api.ErrWhole},
		{"1", "-0", none, api.ErrWhole},
		{"1", "", none, api.ErrWhole},
		{tooLong, "10", none, api.ErrWhole},
		{"1", tooLong, none, api.ErrWhole},
	} {
		if a, e := Make(x.n, x.d); a != x.want || e != x.e {
			t.Errorf("Make(%s, %s): %v, error %d", x.n, x.d, a, e)
		}
	}
}

// P2.1
func TestOf(t *testing.T) {
	for _, x := range []struct {
		n, d int
		want api.Frac
		e    api.Errno
	}{
		{6, -4, fr("-3/2"), api.OK},
		{0, 5, fr("0"), api.OK},
		{0, math.MinInt, fr("0"), api.OK},
		{math.MinInt, math.MinInt, fr("1"), api.OK},
		{math.MinInt, -1, fr("9223372036854775808"), api.OK},
		{1, math.MinInt, fr("-1/9223372036854775808"), api.OK},
		{math.MinInt, math.MaxInt, fr("-9223372036854775808/9223372036854775807"), api.OK},
		{math.MaxInt, math.MinInt, fr("-9223372036854775807/9223372036854775808"), api.OK},
		{1, 0, none, api.ErrZero},
		{0, 0, none, api.ErrZero},
	} {
		if a, e := Of(x.n, x.d); a != x.want || e != x.e {
			t.Errorf("Of(%d, %d): %v, error %d", x.n, x.d, a, e)
		}
	}
}

// P2.2
func TestOrder(t *testing.T) {
	rising := append(frs(string(least), "-2", "-3/2", "-1", "-1/2", "-1/3"), api.Frac{N: "-1", D: greatest}, fr("0"), tiny,
		fr("1/3"), fr("166666666667/500000000000"), fr("1/2"), api.Frac{N: greatest[:599] + "8", D: greatest}, fr("1"), fr("3/2"), fr("2"), most)
	for i, a := range rising {
		want := min(max(i-7, -1), 1)
		if s, e := Sign(a); s != want || e != api.OK {
			t.Errorf("Sign(%v): %d, error %d", a, s, e)
		}
		for j, b := range rising {
			want := min(max(i-j, -1), 1)
			if c, e := Cmp(a, b); c != want || e != api.OK {
				t.Errorf("Cmp(%v, %v): %d, error %d", a, b, c, e)
			}
			if c, e := Min(a, b); c != rising[min(i, j)] || e != api.OK {
				t.Errorf("Min(%v, %v): %v, error %d", a, b, c, e)
			}
			if c, e := Max(a, b); c != rising[max(i, j)] || e != api.OK {
				t.Errorf("Max(%v, %v): %v, error %d", a, b, c, e)
			}
		}
	}
}

// P2.2
func TestClamp(t *testing.T) {
	for _, x := range []struct {
		a, low, high, want string
		e                  api.Errno
	}{
		{"3/2", "0", "1", "1", api.OK},
		{"-1/7", "0", "1", "0", api.OK},
		{"1/2", "0", "1", "1/2", api.OK},
		{"0", "0", "1", "0", api.OK},
		{"1", "0", "1", "1", api.OK},
		{"5", "1/3", "1/3", "1/3", api.OK},
		{"-5", "1/3", "1/3", "1/3", api.OK},
		{"1/3", "1/3", "1/3", "1/3", api.OK},
		{"-2", "-3", "-1/2", "-2", api.OK},
		{"0", "-3", "-1/2", "-1/2", api.OK},
		{"0", "1", "0", "", api.ErrArg},
		{"1/2", "1/2", "1/3", "", api.ErrArg},
		{"-5", "0", "-1", "", api.ErrArg},
		{"5", "0", "-1", "", api.ErrArg},
		{"2/4", "1", "0", "", api.ErrFrac},
		{"0", "2/4", "0", "", api.ErrFrac},
		{"0", "1", "0/2", "", api.ErrFrac},
	} {
		want := none
		if x.e == api.OK {
			want = fr(x.want)
		}
		if c, e := Clamp(fr(x.a), fr(x.low), fr(x.high)); c != want || e != x.e {
			t.Errorf("Clamp(%s, %s, %s): %v, error %d", x.a, x.low, x.high, c, e)
		}
	}
}

// P2.3
func TestAddSubMulDiv(t *testing.T) {
	one, tenth := fr("1"), api.Frac{N: "1", D: tenToThe(300)}
	for _, x := range []struct {
		name       string
		f          func(a, b api.Frac) (api.Frac, api.Errno)
		a, b, want api.Frac
		e          api.Errno
	}{
		{"Add", Add, fr("1/2"), fr("1/3"), fr("5/6"), api.OK},
		{"Add", Add, fr("1/6"), fr("1/3"), fr("1/2"), api.OK},
		{"Add", Add, fr("-1/6"), fr("1/6"), fr("0"), api.OK},
		{"Add", Add, fr("5/12"), fr("7/18"), fr("29/36"), api.OK},
		{"Add", Add, fr("-4"), fr("1/2"), fr("-7/2"), api.OK},
		{"Add", Add, api.Frac{N: "1", D: hundreds}, api.Frac{N: greatest[:599], D: hundreds}, one, api.OK},
		{"Add", Add, most, fr("0"), most, api.OK},
		{"Add", Add, most, fr(string(least)), fr("0"), api.OK},
		{"Add", Add, most, one, none, api.ErrBig},
		{"Add", Add, tiny, one, none, api.ErrBig},
		{"Add", Add, tiny, fr("1/2"), none, api.ErrBig},
		{"Sub", Sub, fr("1/2"), fr("1/2"), fr("0"), api.OK},
		{"Sub", Sub, fr("1/2"), fr("1/3"), fr("1/6"), api.OK},
		{"Sub", Sub, fr("1/3"), fr("-1/6"), fr("1/2"), api.OK},
		{"Sub", Sub, tiny, tiny, fr("0"), api.OK},
		{"Sub", Sub, most, fr("-1"), none, api.ErrBig},
		{"Mul", Mul, fr("-2/3"), fr("3/2"), fr("-1"), api.OK},
		{"Mul", Mul, fr("-2/3"), fr("-9/4"), fr("3/2"), api.OK},
		{"Mul", Mul, fr("0"), fr("-3/7"), fr("0"), api.OK},
		{"Mul", Mul, most, tiny, one, api.OK},
		{"Mul", Mul, tenth, api.Frac{N: tenToThe(599), D: "1"}, api.Frac{N: tenToThe(299), D: "1"}, api.OK},
		{"Mul", Mul, tenth, tenth, none, api.ErrBig},
		{"Mul", Mul, most, fr("2"), none, api.ErrBig},
		{"Div", Div, fr("1"), fr("-2/3"), fr("-3/2"), api.OK},
		{"Div", Div, fr("-1/2"), fr("-1/4"), fr("2"), api.OK},
		{"Div", Div, fr("0"), fr("-1/4"), fr("0"), api.OK},
		{"Div", Div, tiny, tiny, one, api.OK},
		{"Div", Div, one, tiny, most, api.OK},
		{"Div", Div, most, tiny, none, api.ErrBig},
		{"Div", Div, one, fr("0"), none, api.ErrZero},
		{"Div", Div, fr("0"), fr("0"), none, api.ErrZero},
		{"Div", Div, fr("2/4"), fr("0"), none, api.ErrFrac},
		{"Div", Div, one, fr("0/2"), none, api.ErrFrac},
	} {
		if c, e := x.f(x.a, x.b); c != x.want || e != x.e {
			t.Errorf("%s(%v, %v): %v, error %d", x.name, x.a, x.b, c, e)
		}
	}
}

// P2.3
func TestNegAbs(t *testing.T) {
	for _, x := range []struct{ a, neg, abs string }{
		{"0", "0", "0"}, {"1/2", "-1/2", "1/2"}, {"-3/2", "3/2", "3/2"}, {string(greatest), string(least), string(greatest)}, {string(least), string(greatest), string(greatest)},
	} {
		if c, e := Neg(fr(x.a)); c != fr(x.neg) || e != api.OK {
			t.Errorf("Neg(%s): %v, error %d", x.a, c, e)
		}
		if c, e := Abs(fr(x.a)); c != fr(x.abs) || e != api.OK {
			t.Errorf("Abs(%s): %v, error %d", x.a, c, e)
		}
	}
}

// P2.3
func TestPow(t *testing.T) {
	for _, x := range []struct {
		a    api.Frac
		n    int
		want api.Frac
		e    api.Errno
	}{
		{fr("-2/3"), 3, fr("-8/27"), api.OK},
		{fr("-2/3"), 2, fr("4/9"), api.OK},
		{fr("-2/3"), 1, fr("-2/3"), api.OK},
		{fr("0"), 0, fr("1"), api.OK},
		{fr("0"), 40, fr("0"), api.OK},
		{fr("-5/7"), 0, fr("1"), api.OK},
		{fr("1/2"), 40, fr("1/1099511627776"), api.OK},
		{tiny, 1, tiny, api.OK},
		{tiny, 2, none, api.ErrBig},
		{most, 40, none, api.ErrBig},
		{api.Frac{N: "-1", D: tenToThe(15)}, 39, api.Frac{N: "-1", D: tenToThe(585)}, api.OK},
		{api.Frac{N: "-1", D: tenToThe(15)}, 40, none, api.ErrBig},
		{most, 41, none, api.ErrArg},
		{fr("1"), 41, none, api.ErrArg},
		{fr("1"), -1, none, api.ErrArg},
		{fr("1"), math.MinInt, none, api.ErrArg},
		{fr("1"), math.MaxInt, none, api.ErrArg},
		{fr("2/4"), 41, none, api.ErrFrac},
	} {
		if c, e := Pow(x.a, x.n); c != x.want || e != x.e {
			t.Errorf("Pow(%v, %d): %v, error %d", x.a, x.n, c, e)
		}
	}
}

// repeated returns a list of n elements, which are those of l over and over.
func repeated(n int, l ...api.Frac) []api.Frac {
	all := make([]api.Frac, n)
	for i := range all {
		all[i] = l[i%len(l)]
	}
	return all
}

// P2.3
func TestSum(t *testing.T) {
	other := api.Frac{N: "1", D: hundreds} // its denominator and that of tiny have no common divisor
	for _, x := range []struct {
		name string
		l    []api.Frac
		want api.Frac
		e    api.Errno
	}{
		{"example", frs("1/2", "1/3", "1/6"), fr("1"), api.OK},
		{"none", nil, fr("0"), api.OK},
		{"none, not nil", []api.Frac{}, fr("0"), api.OK},
		{"one", frs("-7/3"), fr("-7/3"), api.OK},
		{"300 halves", repeated(api.MaxTerms, fr("1/2")), fr("150"), api.OK},
		{"300 tenths and fifteenths", repeated(api.MaxTerms, frs("1/10", "-1/15")...), fr("5"), api.OK},
		{"a long sum on the way", []api.Frac{most, most, fr(string(least)), most, fr(string(least))}, most, api.OK},
		{"long denominators on the way", []api.Frac{tiny, other, {N: "-1", D: greatest}, {N: "-1", D: hundreds}, fr("1/7")}, fr("1/7"), api.OK},
		{"a long sum", []api.Frac{most, fr("0"), fr("1")}, none, api.ErrBig},
		{"a long denominator", []api.Frac{tiny, other}, none, api.ErrBig},
		{"301", repeated(api.MaxTerms+1, fr("0")), none, api.ErrLong},
		{"301 invalid ones", repeated(api.MaxTerms+1, fr("2/4")), none, api.ErrLong},
		{"300, an invalid one", append(repeated(api.MaxTerms-1, most), fr("2/4")), none, api.ErrFrac},
		{"an invalid one", frs("1/2", "0/2", "1/3"), none, api.ErrFrac},
	} {
		if c, e := Sum(x.l); c != x.want || e != x.e {
			t.Errorf("Sum of %s: %v, error %d", x.name, c, e)
		}
	}
}

// P2.4
func TestFloor(t *testing.T) {
	for _, x := range []struct {
		a    api.Frac
		want api.Whole
	}{
		{fr("-1/2"), "-1"}, {fr("1/2"), "0"}, {fr("0"), "0"}, {fr("7"), "7"}, {fr("-7"), "-7"}, {fr("7/2"), "3"}, {fr("-7/2"), "-4"}, {fr("-7/3"), "-3"},
		{tiny, "0"}, {api.Frac{N: "-1", D: greatest}, "-1"}, {most, greatest}, {fr(string(least)), least}, {api.Frac{N: least, D: hundreds}, "-10"},
	} {
		if c, e := Floor(x.a); c != x.want || e != api.OK {
			t.Errorf("Floor(%v): %s, error %d", x.a, c, e)
		}
	}
}

// P2.4
func TestNear(t *testing.T) {
	for _, x := range []struct {
		a     api.Frac
		scale int
		want  int
		e     api.Errno
	}{
		{fr("1/2"), 1, 1, api.OK},
		{fr("-1/2"), 1, 0, api.OK},
		{fr("-3/2"), 1, -1, api.OK},
		{fr("-5/3"), 1, -2, api.OK},
		{fr("49/100"), 1, 0, api.OK},
		{fr("0"), 65535, 0, api.OK},
		{fr("2/3"), 1000, 667, api.OK},
		{fr("-2/3"), 1000, -667, api.OK},
		{fr("1/3"), 65535, 21845, api.OK},
		{fr("1/2"), 65535, 32768, api.OK},
		{fr("-1/2"), 65535, -32767, api.OK},
		{fr("1/2"), api.MaxScale, 500000000000, api.OK},
		{tiny, api.MaxScale, 0, api.OK},
		{fr("9223372036854775807"), 1, math.MaxInt, api.OK},
		{fr("-9223372036854775808"), 1, math.MinInt, api.OK},
		{fr("-18446744073709551617/2"), 1, math.MinInt, api.OK},
		{fr("36893488147419103227/4"), 1, math.MaxInt, api.OK},
		{fr("18446744073709551615/2"), 1, 0, api.ErrBig},
		{fr("-9223372036854775809"), 1, 0, api.ErrBig},
		{fr("9223372"), api.MaxScale, 9223372000000000000, api.OK},
		{fr("9223373"), api.MaxScale, 0, api.ErrBig},
		{most, 1, 0, api.ErrBig},
		{fr(string(least)), api.MaxScale, 0, api.ErrBig},
		{fr("1"), 0, 0, api.ErrArg},
		{fr("1"), -1, 0, api.ErrArg},
		{fr("1"), math.MinInt, 0, api.ErrArg},
		{fr("1"), api.MaxScale + 1, 0, api.ErrArg},
		{most, 0, 0, api.ErrArg},
		{fr("2/4"), 0, 0, api.ErrFrac},
	} {
		if n, e := Near(x.a, x.scale); n != x.want || e != x.e {
			t.Errorf("Near(%v, %d): %d, error %d", x.a, x.scale, n, e)
		}
	}
}

// P2.5
func TestText(t *testing.T) {
	zeros := strings.Repeat("0", api.MaxDecimals)
	for _, x := range []struct {
		a      api.Frac
		places int
		want   string
		e      api.Errno
	}{
		{fr("-1/8"), 2, "-0.12", api.OK},
		{fr("1/8"), 2, "0.13", api.OK},
		{fr("1/3"), 4, "0.3333", api.OK},
		{fr("2/3"), 4, "0.6667", api.OK},
		{fr("5/2"), 0, "3", api.OK},
		{fr("-5/2"), 0, "-2", api.OK},
		{fr("-1/1000"), 2, "0.00", api.OK},
		{fr("-1/200"), 2, "0.00", api.OK},
		{fr("-1/2"), 0, "0", api.OK},
		{fr("-3/4"), 0, "-1", api.OK},
		{fr("0"), 0, "0", api.OK},
		{fr("0"), 3, "0.000", api.OK},
		{fr("-12"), 1, "-12.0", api.OK},
		{fr("99999/100000"), 3, "1.000", api.OK},
		{fr("1/100000000000000000000"), 20, "0.00000000000000000001", api.OK},
		{tiny, 20, "0." + zeros, api.OK},
		{most, 20, string(greatest) + "." + zeros, api.OK},
		{fr(string(least)), 20, string(least) + "." + zeros, api.OK},
		{fr(string(least)), 0, string(least), api.OK},
		{fr("1"), -1, "", api.ErrArg},
		{fr("1"), 21, "", api.ErrArg},
		{fr("1"), math.MaxInt, "", api.ErrArg},
		{fr("2/4"), -1, "", api.ErrFrac},
	} {
		if s, e := Text(x.a, x.places); s != x.want || e != x.e {
			t.Errorf("Text(%v, %d): %s, error %d", x.a, x.places, s, e)
		}
	}
}

// P2.5
func TestParse(t *testing.T) {
	long := strings.Repeat("7", 1000000)
	for _, x := range []struct {
		s    string
		want api.Frac
		e    api.Errno
	}{
		{"-0.50", fr("-1/2"), api.OK},
		{"0.5", fr("1/2"), api.OK},
		{"12", fr("12"), api.OK},
		{"-12.125", fr("-97/8"), api.OK},
		{"0", fr("0"), api.OK},
		{"0.00", fr("0"), api.OK},
		{"10", fr("10"), api.OK},
		{"10.10", fr("101/10"), api.OK},
		{"100.05", fr("2001/20"), api.OK},
		{"-0.00000000000000000001", fr("-1/100000000000000000000"), api.OK},
		{string(greatest), most, api.OK},
		{string(least) + ".00000000000000000000", fr(string(least)), api.OK},
		{string(hundreds) + ".0", api.Frac{N: hundreds, D: "1"}, api.OK},
		{"4" + string(greatest[1:]) + ".5", api.Frac{N: greatest, D: "2"}, api.OK},
		{"5" + string(hundreds[1:]) + ".5", none, api.ErrBig},
		{string(greatest) + ".5", none, api.ErrBig},
		{string(tooLong), none, api.ErrBig},
		{"-" + string(tooLong) + ".25", none, api.ErrBig},
		{long, none, api.ErrBig},
		{long + "." + long, none, api.ErrForm},
		{long + "x", none, api.ErrForm},
		{"0" + string(tooLong), none, api.ErrForm},
	} {
		if c, e := Parse(x.s); c != x.want || e != x.e {
			t.Errorf("Parse(%.60s): %v, error %d", x.s, c, e)
		}
	}
	for _, s := range []string{
		"", "-", ".", "-.", "007", "00", "-01", "00.5", "-00.5", "1.", "-1.", ".5", "-.5", "-0", "-0.0", "-0.00000000000000000000", "0.000000000000000000000", "1.123456789012345678901",
		"+1", "--1", "1-", "1..2", "1.2.3", "1.-2", "1,5", "1e5", "1/2", " 1", "1 ", "1\n", "1_0", "0x1", "a", "1a", "1.a", "\x00", "\xff", "1\xff", "1\x80.5", "٣", "1.٣", "１",
	} {
		if c, e := Parse(s); c != none || e != api.ErrForm {
			t.Errorf("Parse(%q): %v, error %d", s, c, e)
		}
	}
}

// An invalid fraction is found before all other errors but Sum's ErrLong, and with an error there is no result (P1, R2).
func TestInvalidArguments(t *testing.T) {
	for _, a := range invalid() {
		fail := func(name string, e api.Errno, zero bool) {
			if e != api.ErrFrac || !zero {
				t.Errorf("%s of %.40v: error %d, results are zero: %v", name, a, e, zero)
			}
		}
		n, e := Sign(a)
		fail("Sign", e, n == 0)
		w, e := Floor(a)
		fail("Floor", e, w == "")
		for name, f := range map[string]func(api.Frac) (api.Frac, api.Errno){"Neg": Neg, "Abs": Abs} {
			c, e := f(a)
			fail(name, e, c == none)
		}
		for _, k := range []int{-1, 0, 1, 50} {
			c, e := Pow(a, k)
			fail("Pow", e, c == none)
			n, e := Near(a, k)
			fail("Near", e, n == 0)
			s, e := Text(a, k)
			fail("Text", e, s == "")
		}
		for _, b := range append(frs("0", "1/3", "-1"), most, tiny, a) {
			for _, p := range [][2]api.Frac{{a, b}, {b, a}} {
				n, e := Cmp(p[0], p[1])
				fail("Cmp", e, n == 0)
				for name, f := range map[string]func(a, b api.Frac) (api.Frac, api.Errno){"Add": Add, "Sub": Sub, "Mul": Mul, "Div": Div, "Min": Min, "Max": Max} {
					c, e := f(p[0], p[1])
					fail(name, e, c == none)
				}
				c, e := Sum(p[:])
				fail("Sum", e, c == none)
			}
			for _, l := range [][3]api.Frac{{a, b, fr("0")}, {b, a, fr("0")}, {fr("0"), b, a}} {
				c, e := Clamp(l[0], l[1], l[2])
				fail("Clamp", e, c == none)
			}
		}
	}
}
