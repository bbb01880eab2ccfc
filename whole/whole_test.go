package whole

import (
	"math"
	"math/big"
	"strings"
	"testing"

	"verdigris/api"
)

// The greatest number of MaxWhole digits, the least one, and numbers beside them.
var (
	greatest  = api.Whole(strings.Repeat("9", api.MaxWhole))
	least     = "-" + greatest
	hundreds  = api.Whole("1" + strings.Repeat("0", api.MaxWhole-1)) // 10^599
	tooLong   = "1" + api.Whole(strings.Repeat("0", api.MaxWhole))
	minInt    = api.Whole("-9223372036854775808")
	maxInt    = api.Whole("9223372036854775807")
	belowInts = api.Whole("-9223372036854775809")
	aboveInts = api.Whole("9223372036854775808")
)

// tenTo returns 10^n.
func tenTo(n int) api.Whole {
	return api.Whole("1" + strings.Repeat("0", n))
}

func invalid() []api.Whole {
	return []api.Whole{
		"", "-", "+", "+1", "-0", "00", "-00", "017", "-017", "--1", "1-", "-1-", " 1", "1 ", "1\n", "1a", "a", "1.0", "1/2", "1e3", "0x1", "1_000",
		"/", ":", "\x00", "\xff", "٣", "１", tooLong, "-" + tooLong, "0" + greatest, api.Whole(strings.Repeat("1", 1000000)), greatest[:598] + "x9", "-" + greatest[:300] + "-",
	}
}

// P1.1
func TestCheck(t *testing.T) {
	for _, a := range []api.Whole{"0", "1", "-1", "9", "10", "-17", "1000000000000000000000", minInt, aboveInts, greatest, least, hundreds} {
		if e := Check(a); e != api.OK {
			t.Errorf("Check(%s): error %d", a, e)
		}
	}
	for _, a := range invalid() {
		if e := Check(a); e != api.ErrWhole {
			t.Errorf("Check(%.40q): error %d", a, e)
		}
	}
}

// P1.1
func TestOfAndInt(t *testing.T) {
	for n, want := range map[int]api.Whole{
		0: "0", 1: "1", -1: "-1", 10: "10", -907: "-907", math.MaxInt64: maxInt, math.MinInt64: minInt, math.MinInt64 + 1: "-9223372036854775807",
	} {
		if a := Of(n); a != want {
			t.Errorf("Of(%d): %s", n, a)
		}
		if got, e := Int(want); got != n || e != api.OK {
			t.Errorf("Int(%s): %d, error %d", want, got, e)
		}
	}
	for _, a := range []api.Whole{belowInts, aboveInts, "18446744073709551616", "-18446744073709551617", greatest, least} {
		if n, e := Int(a); n != 0 || e != api.ErrBig {
			t.Errorf("Int(%s): %d, error %d", a, n, e)
		}
	}
}

// P1.2
func TestSignNegAbs(t *testing.T) {
	for _, x := range []struct {
		a        api.Whole
		sign     int
		neg, abs api.Whole
	}{
		{"0", 0, "0", "0"},
		{"5", 1, "-5", "5"},
		{"-5", -1, "5", "5"},
		{minInt, -1, aboveInts, aboveInts},
		{"-18446744073709551616", -1, "18446744073709551616", "18446744073709551616"},
		{greatest, 1, least, greatest},
		{least, -1, greatest, greatest},
	} {
		if s, e := Sign(x.a); s != x.sign || e != api.OK {
			t.Errorf("Sign(%s): %d, error %d", x.a, s, e)
		}
		if a, e := Neg(x.a); a != x.neg || e != api.OK {
			t.Errorf("Neg(%s): %s, error %d", x.a, a, e)
		}
		if a, e := Abs(x.a); a != x.abs || e != api.OK {
			t.Errorf("Abs(%s): %s, error %d", x.a, a, e)
		}
	}
}

// P1.2
func TestCmp(t *testing.T) {
	rising := []api.Whole{
		least, "-" + hundreds, belowInts, minInt, "-1000", "-999", "-10", "-9", "-1", "0", "1", "9", "10", "999", "1000", maxInt, aboveInts,
		"18446744073709551615", "18446744073709551616", hundreds, greatest[:599] + "8", greatest,
	}
	for i, a := range rising {
		for j, b := range rising {
			want := 0
			if i < j {
				want = -1
			} else if i > j {
				want = 1
			}
			if c, e := Cmp(a, b); c != want || e != api.OK {
				t.Errorf("Cmp(%s, %s): %d, error %d", a, b, c, e)
			}
		}
	}
}

// P1.3
func TestAddSubMul(t *testing.T) {
	for _, x := range []struct {
		name     string
		f        func(a, b api.Whole) (api.Whole, api.Errno)
		a, b, to api.Whole
		e        api.Errno
	}{
		{"Add", Add, "-5", "3", "-2", api.OK},
		{"Add", Add, "5", "-5", "0", api.OK},
		{"Add", Add, "999", "1", "1000", api.OK},
		{"Add", Add, maxInt, "1", aboveInts, api.OK},
		{"Add", Add, "18446744073709551615", "1", "18446744073709551616", api.OK},
		{"Add", Add, greatest, "0", greatest, api.OK},
		{"Add", Add, greatest, least, "0", api.OK},
		{"Add", Add, greatest[:599] + "8", "1", greatest, api.OK},
		{"Add", Add, greatest, "1", "", api.ErrBig},
		{"Add", Add, "-1", least, "", api.ErrBig},
		{"Add", Add, greatest, greatest, "", api.ErrBig},
		{"Sub", Sub, "3", "5", "-2", api.OK},
		{"Sub", Sub, "0", "7", "-7", api.OK},
		{"Sub", Sub, "-7", "-7", "0", api.OK},
		{"Sub", Sub, minInt, "1", belowInts, api.OK},
		{"Sub", Sub, "1000", "1", "999", api.OK},
		{"Sub", Sub, greatest, greatest, "0", api.OK},
		{"Sub", Sub, greatest, hundreds, "8" + greatest[:599], api.OK},
		{"Sub", Sub, greatest, "-1", "", api.ErrBig},
		{"Sub", Sub, least, "1", "", api.ErrBig},
		{"Mul", Mul, "-1000000000000000000", "1000000000000000000", "-1000000000000000000000000000000000000", api.OK},
		{"Mul", Mul, "-12", "-12", "144", api.OK},
		{"Mul", Mul, "0", least, "0", api.OK},
		{"Mul", Mul, minInt, minInt, "85070591730234615865843651857942052864", api.OK},
		{"Mul", Mul, greatest, "-1", least, api.OK},
		{"Mul", Mul, tenTo(300), tenTo(299), hundreds, api.OK},
		{"Mul", Mul, tenTo(300), tenTo(300), "", api.ErrBig},
		{"Mul", Mul, "-" + tenTo(599), "10", "", api.ErrBig},
		{"Mul", Mul, greatest, least, "", api.ErrBig},
	} {
		if c, e := x.f(x.a, x.b); c != x.to || e != x.e {
			t.Errorf("%s(%s, %s): %s, error %d", x.name, x.a, x.b, c, e)
		}
	}
}

// P1.4
func TestDiv(t *testing.T) {
	for _, x := range []struct {
		a, b, q, r api.Whole
		e          api.Errno
	}{
		{"7", "2", "3", "1", api.OK},
		{"-7", "2", "-4", "1", api.OK},
		{"7", "-2", "-3", "1", api.OK},
		{"-7", "-2", "4", "1", api.OK},
		{"-6", "2", "-3", "0", api.OK},
		{"-6", "-2", "3", "0", api.OK},
		{"0", "-5", "0", "0", api.OK},
		{"1", "5", "0", "1", api.OK},
		{"-1", "5", "-1", "4", api.OK},
		{"-1", "-5", "1", "4", api.OK},
		{minInt, "-1", aboveInts, "0", api.OK},
		{least, "-1", greatest, "0", api.OK},
		{least, greatest, "-1", "0", api.OK},
		{"-1", greatest, "-1", greatest[:599] + "8", api.OK},
		{"-1", least, "1", greatest[:599] + "8", api.OK},
		{greatest, hundreds, "9", greatest[:599], api.OK},
		{tenTo(40), "3", "3333333333333333333333333333333333333333", "1", api.OK},
		{"1", "0", "", "", api.ErrZero},
		{"0", "0", "", "", api.ErrZero},
		{least, "0", "", "", api.ErrZero},
	} {
		if q, r, e := Div(x.a, x.b); q != x.q || r != x.r || e != x.e {
			t.Errorf("Div(%s, %s): %s, %s, error %d", x.a, x.b, q, r, e)
		}
	}
}

// P1.4
func TestGcd(t *testing.T) {
	for _, x := range []struct{ a, b, want api.Whole }{
		{"-12", "18", "6"}, {"12", "-18", "6"}, {"-12", "-18", "6"}, {"0", "0", "0"}, {"0", "-5", "5"}, {"-5", "0", "5"}, {"1", "0", "1"},
		{"17", "19", "1"}, {minInt, minInt, aboveInts}, {greatest, least, greatest}, {greatest, "-9", "9"}, {greatest, hundreds, "1"},
		{tenTo(599), tenTo(299), tenTo(299)}, {"-" + tenTo(400), greatest[:300] + api.Whole(strings.Repeat("0", 300)), tenTo(300)},
	} {
		if c, e := Gcd(x.a, x.b); c != x.want || e != api.OK {
			t.Errorf("Gcd(%s, %s): %s, error %d", x.a, x.b, c, e)
		}
	}
}

// P1.5
func TestPow(t *testing.T) {
	two1993 := api.Whole(new(big.Int).Lsh(big.NewInt(1), 1993).String())
	if len(two1993) != api.MaxWhole {
		t.Fatalf("2^1993 has %d digits", len(two1993))
	}
	for _, x := range []struct {
		a    api.Whole
		n    int
		want api.Whole
		e    api.Errno
	}{
		{"-3", 3, "-27", api.OK},
		{"-3", 4, "81", api.OK},
		{"0", 0, "1", api.OK},
		{"0", 1, "0", api.OK},
		{"0", 40, "0", api.OK},
		{"-1", 39, "-1", api.OK},
		{"-1", 40, "1", api.OK},
		{least, 0, "1", api.OK},
		{least, 1, least, api.OK},
		{"2", 40, "1099511627776", api.OK},
		{"-10", 39, "-" + tenTo(39), api.OK},
		{"99999999999999", 40, powerOf("99999999999999", 40), api.OK},
		{"1000000000000000", 39, tenTo(585), api.OK},
		{"1000000000000000", 40, "", api.ErrBig},
		{"-" + tenTo(300), 2, "", api.ErrBig},
		{tenTo(299), 2, tenTo(598), api.OK},
		{greatest, 40, "", api.ErrBig},
		{least, 39, "", api.ErrBig},
		{"2", 41, "", api.ErrArg},
		{"2", -1, "", api.ErrArg},
		{greatest, 41, "", api.ErrArg},
		{"1", math.MaxInt64, "", api.ErrArg},
		{"1", math.MinInt64, "", api.ErrArg},
	} {
		if c, e := Pow(x.a, x.n); c != x.want || e != x.e {
			t.Errorf("Pow(%s, %d): %s, error %d", x.a, x.n, c, e)
		}
	}
}

func powerOf(a string, n int64) api.Whole {
	b, _ := new(big.Int).SetString(a, 10)
	return api.Whole(b.Exp(b, big.NewInt(n), nil).String())
}

// P1.5
func TestRoot(t *testing.T) {
	for _, x := range []struct {
		a    api.Whole
		k    int
		want api.Whole
		e    api.Errno
	}{
		{"80", 4, "2", api.OK},
		{"81", 4, "3", api.OK},
		{"82", 4, "3", api.OK},
		{"0", 1, "0", api.OK},
		{"0", 12, "0", api.OK},
		{"1", 12, "1", api.OK},
		{"4095", 12, "1", api.OK},
		{"4096", 12, "2", api.OK},
		{"5", 1, "5", api.OK},
		{greatest, 1, greatest, api.OK},
		{greatest, 2, greatest[:300], api.OK},
		{greatest, 12, greatest[:50], api.OK},
		{tenTo(588), 12, tenTo(49), api.OK},
		{greatest[:588], 12, greatest[:49], api.OK},
		{tenTo(598), 2, tenTo(299), api.OK},
		{"99999999999999999999", 2, "9999999999", api.OK},
		{"-1", 1, "", api.ErrArg},
		{least, 3, "", api.ErrArg},
		{"5", 13, "", api.ErrArg},
		{"5", 0, "", api.ErrArg},
		{"5", -1, "", api.ErrArg},
		{"5", math.MaxInt64, "", api.ErrArg},
		{"5", math.MinInt64, "", api.ErrArg},
	} {
		if c, e := Root(x.a, x.k); c != x.want || e != x.e {
			t.Errorf("Root(%s, %d): %s, error %d", x.a, x.k, c, e)
		}
	}
}

// An invalid number is found before all other errors, and with an error there is no result (P1, R2).
func TestInvalidArguments(t *testing.T) {
	for _, a := range invalid() {
		fail := func(name string, e api.Errno, zero bool) {
			if e != api.ErrWhole || !zero {
				t.Errorf("%s of %.40q: error %d, results are zero: %v", name, a, e, zero)
			}
		}
		n, e := Int(a)
		fail("Int", e, n == 0)
		n, e = Sign(a)
		fail("Sign", e, n == 0)
		for _, f := range []func(api.Whole) (api.Whole, api.Errno){Neg, Abs} {
			c, e := f(a)
			fail("Neg, Abs", e, c == "")
		}
		for _, k := range []int{-1, 0, 2, 50} {
			c, e := Pow(a, k)
			fail("Pow", e, c == "")
			c, e = Root(a, k)
			fail("Root", e, c == "")
		}
		for _, b := range []api.Whole{"0", "1", greatest, a} {
			for _, p := range [][2]api.Whole{{a, b}, {b, a}} {
				n, e := Cmp(p[0], p[1])
				fail("Cmp", e, n == 0)
				for _, f := range []func(a, b api.Whole) (api.Whole, api.Errno){Add, Sub, Mul, Gcd} {
					c, e := f(p[0], p[1])
					fail("Add, Sub, Mul, Gcd", e, c == "")
				}
				q, r, e := Div(p[0], p[1])
				fail("Div", e, q == "" && r == "")
			}
		}
	}
}
