package power

import (
	"math"
	"slices"
	"strings"
	"testing"

	"verdigris/api"
)

const (
	one  = api.OneBand
	most = api.MaxBand
)

var none = api.Band{}

func bd(lo, hi int) api.Band {
	return api.Band{Lo: lo, Hi: hi}
}

func point(n int) api.Band {
	return bd(n, n)
}

// fr returns the fraction whose parts are written with a slash between them, as they stand; D is 1 if there is none.
func fr(text string) api.Frac {
	n, d, slash := strings.Cut(text, "/")
	if !slash {
		d = "1"
	}
	return api.Frac{N: api.Whole(n), D: api.Whole(d)}
}

// tenTo returns the digits of a power of 10.
func tenTo(n int) string {
	return "1" + strings.Repeat("0", n)
}

func invalidBands() []api.Band {
	return []api.Band{bd(1, 0), bd(0, -1), bd(0, most+1), point(most + 1), bd(-most-1, 0), bd(math.MinInt, math.MaxInt), bd(math.MaxInt, math.MinInt), point(math.MinInt)}
}

func invalidFracs() []api.Frac {
	return []api.Frac{{}, fr("2/4"), fr("0/2"), fr("1/0"), fr("1/-1"), fr("-0"), fr("01"), fr("x"), fr(tenTo(api.MaxWhole)), fr("1/" + tenTo(api.MaxWhole))}
}

// notExponents returns pairs of which one or both are out of their range.
func notExponents() [][2]int {
	return [][2]int{{0, 1}, {37, 1}, {1, 0}, {1, 13}, {-1, 1}, {1, -1}, {0, 0}, {37, 13}, {-36, -12}, {math.MinInt, 1}, {math.MaxInt, 1}, {1, math.MinInt}, {1, math.MaxInt}, {math.MinInt, math.MinInt}}
}

func expectPower(t *testing.T, b api.Band, p, q int, want api.Band, wantE api.Errno) {
	t.Helper()
	if c, e := Power(b, p, q); c != want || e != wantE {
		t.Errorf("Power(%v, %d, %d): %v, error %d; want %v, error %d", b, p, q, c, e, want, wantE)
	}
	if p != 1 {
		return
	}
	if c, e := Root(b, q); c != want || e != wantE {
		t.Errorf("Root(%v, %d): %v, error %d; want %v, error %d", b, q, c, e, want, wantE)
	}
}

// P4.1
func TestPower(t *testing.T) {
	for _, x := range []struct {
		b    api.Band
		p, q int
		want api.Band
	}{
		{bd(4*one, 9*one), 1, 2, bd(2*one, 3*one)},
		{bd(0, one), 3, 1, bd(0, one)},
		{point(2 * one), 1, 2, bd(1414213562373, 1414213562374)},
		{point(1), 1, 3, point(100000000)},
		{point(8 * one), 2, 3, point(4 * one)},
		{point(one), 36, 12, point(one)},
		{none, 1, 1, none},
		{none, 36, 1, none},
		{none, 1, 12, none},
		{bd(0, most), 1, 1, bd(0, most)},
		{point(most), 12, 12, point(most)},
		{point(most), 1, 2, point(1000 * one)},
		{point(most), 1, 12, bd(3162277660168, 3162277660169)},
		{point(1), 1, 12, point(one / 10)},
		{point(1), 2, 1, bd(0, 1)},
		{point(1), 36, 1, bd(0, 1)},
		{point(1), 12, 11, bd(0, 1)},
		{point(2), 1, 2, bd(1414213, 1414214)},
		{bd(2, 3), 1, 2, bd(1414213, 1732051)},
		{point(999999), 2, 1, bd(0, 1)},
		{point(1000000), 2, 1, point(1)},
		{point(1000001), 2, 1, bd(1, 2)},
		{point(one / 2), 36, 12, point(one / 8)},
		{point(one / 2), 36, 1, bd(14, 15)},
		{point(one / 4), 6, 4, point(one / 8)},
		{point(one - 1), 36, 1, bd(999999999964, 999999999965)},
		{point(2 * one), 11, 12, bd(1887748625363, 1887748625364)},
		{bd(2*one, 2*one+one/2), 5, 7, bd(1640670712015, 1924167448517)},
	} {
		expectPower(t, x.b, x.p, x.q, x.want, api.OK)
	}
}

// A band that is valid or not by its last unit alone (P4.1).
func TestGreatestPowers(t *testing.T) {
	expectPower(t, bd(0, 1000*one), 2, 1, bd(0, most), api.OK)
	expectPower(t, bd(0, 1000*one+1), 2, 1, none, api.ErrBig)
	expectPower(t, point(1001*one), 2, 1, none, api.ErrBig)
	expectPower(t, point(10*one), 6, 1, point(most), api.OK)
	expectPower(t, bd(9*one, 10*one+1), 6, 1, none, api.ErrBig)
	expectPower(t, point(316227766016837933), 12, 11, bd(most-1, most), api.OK)
	expectPower(t, bd(0, 316227766016837934), 12, 11, none, api.ErrBig)
	expectPower(t, point(most), 13, 12, none, api.ErrBig)
	expectPower(t, point(most), 36, 1, none, api.ErrBig)
	expectPower(t, bd(0, 2*one), 36, 1, none, api.ErrBig)
	expectPower(t, bd(one, one+1), 36, 1, bd(one, one+37), api.OK)
}

// P4.1: ErrBand comes before ErrArg, and ErrArg before ErrBig.
func TestPowerErrors(t *testing.T) {
	for _, x := range notExponents() {
		for _, b := range []api.Band{point(one), bd(0, most), bd(-1, 1)} {
			expectPower(t, b, x[0], x[1], none, api.ErrArg)
		}
		for _, b := range invalidBands() {
			expectPower(t, b, x[0], x[1], none, api.ErrBand)
		}
	}
	for _, b := range []api.Band{bd(-1, 1), bd(-1, 0), point(-1), bd(-most, most), point(-most)} {
		for _, x := range [][2]int{{1, 1}, {1, 2}, {2, 1}, {1, 3}, {36, 12}, {36, 1}} {
			expectPower(t, b, x[0], x[1], none, api.ErrArg)
		}
	}
	for _, b := range invalidBands() {
		expectPower(t, b, 1, 2, none, api.ErrBand)
	}
}

func expectExact(t *testing.T, a api.Frac, p, q int, want api.Frac, wantE api.Errno) {
	t.Helper()
	if b, e := Exact(a, p, q); b != want || e != wantE {
		t.Errorf("Exact(%.60v, %d, %d): %.60v, error %d; want %.60v, error %d", a, p, q, b, e, want, wantE)
	}
}

// P4.2
func TestExact(t *testing.T) {
	for _, x := range []struct {
		a    string
		p, q int
		want string
	}{
		{"8/27", 2, 3, "4/9"},
		{"0", 1, 12, "0"},
		{"0", 36, 1, "0"},
		{"0", 36, 12, "0"},
		{"1", 1, 12, "1"},
		{"1", 36, 7, "1"},
		{"4/9", 1, 2, "2/3"},
		{"4", 1, 2, "2"},
		{"1/4", 1, 2, "1/2"},
		{"1/4096", 1, 12, "1/2"},
		{"4096/531441", 11, 12, "2048/177147"},
		{"2/3", 3, 1, "8/27"},
		{"2", 36, 1, "68719476736"},
		{"2", 2, 2, "2"}, // the root of 2 is irrational, that of its square is not
		{"3/5", 12, 12, "3/5"},
		{"3/5", 36, 12, "27/125"},
		{"4/9", 6, 4, "8/27"},
		{"4/9", 12, 8, "8/27"},
	} {
		expectExact(t, fr(x.a), x.p, x.q, fr(x.want), api.OK)
	}
	for _, x := range []struct {
		a    string
		p, q int
	}{
		{"2", 1, 2}, {"4/3", 1, 2}, {"3/4", 1, 2}, {"8/5", 1, 2}, {"2", 3, 2}, {"4", 2, 3}, {"4", 1, 4}, {"4", 3, 4}, {"9/4", 2, 8}, {"2", 36, 11}, {"4095", 1, 12}, {"4097", 1, 12}, {"1/4097", 5, 12}, {"10", 35, 12},
	} {
		expectExact(t, fr(x.a), x.p, x.q, api.Frac{}, api.ErrNone)
	}
}

// P4.2: the limit of digits is that of the power alone, and ErrNone comes before ErrBig.
func TestLongExact(t *testing.T) {
	nines := strings.Repeat("9", api.MaxWhole)
	for _, x := range []struct {
		a    string
		p, q int
		want string
	}{
		{tenTo(599), 1, 1, tenTo(599)},
		{nines, 7, 7, nines},
		{"1/" + nines, 12, 12, "1/" + nines},
		{tenTo(598), 1, 2, tenTo(299)},
		{"1/" + tenTo(598), 1, 2, "1/" + tenTo(299)},
		{tenTo(299), 2, 1, tenTo(598)},
		{"1/" + tenTo(299), 2, 1, "1/" + tenTo(598)},
		{tenTo(396), 17, 12, tenTo(561)},
	} {
		expectExact(t, fr(x.a), x.p, x.q, fr(x.want), api.OK)
	}
	for _, x := range []struct {
		a    string
		p, q int
		e    api.Errno
	}{
		{tenTo(300), 2, 1, api.ErrBig},
		{"3/" + tenTo(300), 2, 1, api.ErrBig},
		{tenTo(300) + "/3", 2, 1, api.ErrBig},
		{tenTo(598), 36, 12, api.ErrBig},
		{tenTo(396), 19, 12, api.ErrBig},
		{nines, 36, 1, api.ErrBig},
		{"1/" + nines, 36, 12, api.ErrBig},
		{nines, 1, 2, api.ErrNone},
		{tenTo(599), 36, 11, api.ErrNone},
		{tenTo(598), 35, 12, api.ErrNone},
		{tenTo(588) + "/2", 35, 12, api.ErrFrac},
		{tenTo(588) + "/3", 35, 12, api.ErrNone},
		{"3/" + tenTo(588), 35, 12, api.ErrNone},
	} {
		expectExact(t, fr(x.a), x.p, x.q, api.Frac{}, x.e)
	}
}

// P4.2: ErrFrac comes before ErrArg, and ErrArg before ErrNone and ErrBig.
func TestExactErrors(t *testing.T) {
	long := fr(tenTo(599))
	for _, x := range notExponents() {
		for _, a := range []api.Frac{fr("1"), fr("0"), fr("2/3"), fr("-2/3"), long} {
			expectExact(t, a, x[0], x[1], api.Frac{}, api.ErrArg)
		}
		for _, a := range invalidFracs() {
			expectExact(t, a, x[0], x[1], api.Frac{}, api.ErrFrac)
		}
	}
	for _, a := range []string{"-1", "-1/2", "-8/27", "-" + tenTo(599)} {
		for _, x := range [][2]int{{2, 1}, {1, 1}, {1, 2}, {1, 3}, {36, 12}, {36, 1}} {
			expectExact(t, fr(a), x[0], x[1], api.Frac{}, api.ErrArg)
		}
	}
	for _, a := range invalidFracs() {
		expectExact(t, a, 1, 2, api.Frac{}, api.ErrFrac)
	}
}

func expectNorm(t *testing.T, l []api.Band, want api.Band, wantE api.Errno) {
	t.Helper()
	keep := slices.Clone(l)
	if b, e := Norm(l); b != want || e != wantE {
		t.Errorf("Norm(%v): %v, error %d; want %v, error %d", l, b, e, want, wantE)
	}
	if !slices.Equal(l, keep) {
		t.Errorf("Norm(%v) has changed the list to %v", keep, l)
	}
}

// P4.3
func TestNorm(t *testing.T) {
	for _, x := range []struct {
		l    []api.Band
		want api.Band
	}{
		{[]api.Band{point(3 * one), point(-4 * one)}, point(5 * one)},
		{[]api.Band{bd(-1, 2)}, bd(0, 2)},
		{[]api.Band{point(1), point(1)}, bd(1, 2)},
		{[]api.Band{none}, none},
		{[]api.Band{none, none, none, none, none, none, none, none}, none},
		{slices.Repeat([]api.Band{point(1)}, 8), bd(2, 3)},
		{slices.Repeat([]api.Band{point(one)}, 4), point(2 * one)},
		{slices.Repeat([]api.Band{bd(-one, one)}, 8), bd(0, 2828427124747)},
		{[]api.Band{point(one), point(-one)}, bd(1414213562373, 1414213562374)},
		{[]api.Band{bd(-4, -3), bd(4, 12)}, bd(5, 13)},
		{[]api.Band{bd(-3, 1), bd(-4, 2), none}, bd(0, 5)},
		{[]api.Band{bd(2, 3), bd(3, 6), bd(-6, 2)}, bd(3, 9)},
	} {
		expectNorm(t, x.l, x.want, api.OK)
	}
}

// A band that is valid or not by its last unit alone (P4.3).
func TestGreatestNorms(t *testing.T) {
	expectNorm(t, []api.Band{bd(-most, most)}, bd(0, most), api.OK)
	expectNorm(t, []api.Band{point(-most), none}, point(most), api.OK)
	expectNorm(t, []api.Band{point(3 * most / 5), point(4 * most / 5)}, point(most), api.OK)
	expectNorm(t, []api.Band{point(most), bd(0, 1)}, none, api.ErrBig)
	expectNorm(t, []api.Band{point(1 - most), bd(0, 1414213562)}, bd(most-1, most), api.OK)
	expectNorm(t, []api.Band{point(1 - most), bd(0, 1414213563)}, none, api.ErrBig)
	expectNorm(t, slices.Repeat([]api.Band{bd(0, 353553390593273762)}, 8), bd(0, most), api.OK)
	expectNorm(t, slices.Repeat([]api.Band{bd(0, 353553390593273763)}, 8), none, api.ErrBig)
	expectNorm(t, slices.Repeat([]api.Band{point(-most)}, 8), none, api.ErrBig)
	expectNorm(t, slices.Repeat([]api.Band{bd(-most, most)}, 8), none, api.ErrBig)
}

// P4.3: ErrArg comes before ErrLong, ErrLong before ErrBand, and ErrBand before ErrBig.
func TestNormErrors(t *testing.T) {
	expectNorm(t, nil, none, api.ErrArg)
	expectNorm(t, []api.Band{}, none, api.ErrArg)
	expectNorm(t, make([]api.Band, api.MaxNorm+1), none, api.ErrLong)
	expectNorm(t, make([]api.Band, 1000), none, api.ErrLong)
	for _, b := range invalidBands() {
		expectNorm(t, slices.Repeat([]api.Band{b}, api.MaxNorm+1), none, api.ErrLong)
		for n := 1; n <= api.MaxNorm; n++ {
			for i := range n {
				l := slices.Repeat([]api.Band{point(most)}, n)
				l[i] = b
				expectNorm(t, l, none, api.ErrBand)
			}
		}
	}
}
