package frac

import (
	"math/big"
	"math/rand"
	"slices"
	"strings"
	"testing"

	"verdigris/api"
)

// drawn returns a fraction whose parts have at most that many digits; many have a part that is short, or common divisors with others.
func drawn(t *testing.T, r *rand.Rand, digits int) api.Frac {
	t.Helper()
	below := func(digits int) *big.Int {
		return new(big.Int).Rand(r, new(big.Int).Exp(big.NewInt(10), big.NewInt(int64(digits)), nil))
	}
	n, d := below(1+r.Intn(digits)), below(1+r.Intn(digits))
	switch r.Intn(6) {
	case 0:
		d.SetInt64(1)
	case 1:
		n.SetInt64(int64(r.Intn(3)))
	case 2:
		d.SetInt64(int64(1 + r.Intn(60)))
	case 3:
		d.Exp(big.NewInt(6), big.NewInt(int64(r.Intn(digits))), nil)
	}
	if d.Sign() == 0 {
		d.SetInt64(7)
	}
	if r.Intn(2) == 0 {
		n.Neg(n)
	}
	a, e := Make(api.Whole(n.String()), api.Whole(d.String()))
	if e != api.OK {
		t.Fatalf("Make(%s, %s): error %d", n, d, e)
	}
	return a
}

func toRat(t *testing.T, a api.Frac) *big.Rat {
	t.Helper()
	x, ok := new(big.Rat).SetString(string(a.N) + "/" + string(a.D))
	if !ok || Check(a) != api.OK {
		t.Fatalf("%v is no fraction", a)
	}
	return x
}

// parts returns a number as a fraction, or ErrBig if a part of it has too many digits.
func parts(x *big.Rat) (api.Frac, api.Errno) {
	n, d := x.Num().String(), x.Denom().String()
	if len(strings.TrimPrefix(n, "-")) > api.MaxWhole || len(d) > api.MaxWhole {
		return api.Frac{}, api.ErrBig
	}
	return api.Frac{N: api.Whole(n), D: api.Whole(d)}, api.OK
}

func expect(t *testing.T, name string, got api.Frac, e api.Errno, want *big.Rat) {
	t.Helper()
	if a, wantE := parts(want); got != a || e != wantE {
		t.Fatalf("%s: %v, error %d; want %v, error %d", name, got, e, a, wantE)
	}
}

// Results agree with those of the library (P2.1 to P2.3).
func TestAgainstLibrary(t *testing.T) {
	r := rand.New(rand.NewSource(21))
	for i := range 1500 {
		digits := []int{2, 10, 20, 50, 310, 600}[i%6]
		a, b := drawn(t, r, digits), drawn(t, r, digits)
		x, y := toRat(t, a), toRat(t, b)
		c, e := Add(a, b)
		expect(t, "Add", c, e, new(big.Rat).Add(x, y))
		c, e = Sub(a, b)
		expect(t, "Sub", c, e, new(big.Rat).Sub(x, y))
		c, e = Mul(a, b)
		expect(t, "Mul", c, e, new(big.Rat).Mul(x, y))
		c, e = Neg(a)
		expect(t, "Neg", c, e, new(big.Rat).Neg(x))
		c, e = Abs(a)
		expect(t, "Abs", c, e, new(big.Rat).Abs(x))
		if b.N != "0" {
			c, e = Div(a, b)
			expect(t, "Div", c, e, new(big.Rat).Quo(x, y))
		}
		if order, e := Cmp(a, b); order != x.Cmp(y) || e != api.OK {
			t.Fatalf("Cmp(%v, %v): %d, error %d", a, b, order, e)
		}
		if sign, e := Sign(a); sign != x.Sign() || e != api.OK {
			t.Fatalf("Sign(%v): %d, error %d", a, sign, e)
		}
		n := r.Intn(api.MaxPower + 1)
		power := new(big.Rat).SetInt64(1)
		for range n {
			power.Mul(power, x)
		}
		c, e = Pow(a, n)
		expect(t, "Pow", c, e, power)
	}
}

// The sum is exact whatever is met on the way, and the list stays as it is (P2.3, R3).
func TestSumAgainstLibrary(t *testing.T) {
	r := rand.New(rand.NewSource(22))
	for i := range 200 {
		l := make([]api.Frac, r.Intn(12))
		want := new(big.Rat)
		for j := range l {
			l[j] = drawn(t, r, []int{3, 30, 200}[i%3])
			want.Add(want, toRat(t, l[j]))
		}
		kept := slices.Clone(l)
		c, e := Sum(l)
		expect(t, "Sum", c, e, want)
		if !slices.Equal(l, kept) {
			t.Fatalf("the list has changed")
		}
	}
}

// As many terms as there may be, with long denominators that share nothing, add up to a short sum (P2.3).
func TestLongestSum(t *testing.T) {
	r, is := rand.New(rand.NewSource(26)), must(t)
	limit := new(big.Int).Exp(big.NewInt(10), big.NewInt(api.MaxWhole), nil)
	l := make([]api.Frac, api.MaxTerms)
	for i := range api.MaxTerms / 2 {
		n, d := new(big.Int).Rand(r, limit), new(big.Int).Rand(r, limit)
		l[i] = is(Make(api.Whole(n.String()), api.Whole(d.String())))
		l[api.MaxTerms-1-i] = is(Neg(l[i]))
	}
	if sum := is(Sum(l)); sum != (api.Frac{N: "0", D: "1"}) {
		t.Errorf("the sum of terms and their negatives is %v", sum)
	}
	if _, e := Sum(l[1:]); e != api.OK {
		t.Errorf("the sum of all but one: error %d", e)
	}
	l[0] = is(Neg(l[0]))
	if sum, e := Sum(l[:api.MaxTerms/2]); sum != (api.Frac{}) || e != api.ErrBig {
		t.Errorf("the sum of the first half: %v, error %d", sum, e)
	}
}

// must returns a result that comes without an error.
func must(t *testing.T) func(a api.Frac, e api.Errno) api.Frac {
	return func(a api.Frac, e api.Errno) api.Frac {
		t.Helper()
		if e != api.OK {
			t.Fatalf("error %d", e)
		}
		return a
	}
}

// P2.6: the laws of a field.
func TestField(t *testing.T) {
	r, is := rand.New(rand.NewSource(23)), must(t)
	zero, one := api.Frac{N: "0", D: "1"}, api.Frac{N: "1", D: "1"}
	for range 1000 {
		a, b, c := drawn(t, r, 90), drawn(t, r, 90), drawn(t, r, 90)
		for _, x := range []struct {
			name string
			p, q api.Frac
		}{
			{"a + b = b + a", is(Add(a, b)), is(Add(b, a))},
			{"a b = b a", is(Mul(a, b)), is(Mul(b, a))},
			{"(a + b) + c = a + (b + c)", is(Add(is(Add(a, b)), c)), is(Add(a, is(Add(b, c))))},
			{"(a b) c = a (b c)", is(Mul(is(Mul(a, b)), c)), is(Mul(a, is(Mul(b, c))))},
			{"a (b + c) = a b + a c", is(Mul(a, is(Add(b, c)))), is(Add(is(Mul(a, b)), is(Mul(a, c))))},
			{"a + 0 = a", is(Add(a, zero)), a},
			{"a 1 = a", is(Mul(a, one)), a},
			{"a - a = 0", is(Add(a, is(Neg(a)))), zero},
			{"a - b = a + -b", is(Sub(a, b)), is(Add(a, is(Neg(b))))},
		} {
			if x.p != x.q {
				t.Fatalf("%s for %v, %v, %v: %v and %v", x.name, a, b, c, x.p, x.q)
			}
		}
		if a.N != "0" {
			if p := is(Mul(a, is(Div(one, a)))); p != one {
				t.Fatalf("a / a for %v: %v", a, p)
			}
			if p := is(Mul(is(Div(b, a)), a)); p != b {
				t.Fatalf("(b / a) a for %v, %v: %v", a, b, p)
			}
		}
	}
}

// P2.6: a text with enough places is read back; a rounded one is at most half of the last place away, and above at a half.
func TestTextIsReadBack(t *testing.T) {
	r, is := rand.New(rand.NewSource(24)), must(t)
	for i := range 3000 {
		places := i % (api.MaxDecimals + 1)
		unit := api.Frac{N: "1", D: tenToThe(places)}
		a := drawn(t, r, []int{3, 19, 40, 290}[i%4])
		text, e := Text(a, places)
		if e != api.OK {
			t.Fatalf("Text(%v, %d): error %d", a, places, e)
		}
		_, behind, period := strings.Cut(text, ".")
		if len(behind) != places || period != (places > 0) {
			t.Fatalf("Text(%v, %d): %s", a, places, text)
		}
		read := is(Parse(text))
		twice := is(Mul(api.Frac{N: "2", D: "1"}, is(Sub(read, a))))
		above, _ := Cmp(twice, unit)
		below, _ := Cmp(is(Neg(unit)), twice)
		if above > 0 || below >= 0 {
			t.Fatalf("Text(%v, %d): %s", a, places, text)
		}
		exact := is(Make(a.N, tenToThe(places)))
		text, e = Text(exact, places)
		if back := is(Parse(text)); back != exact || e != api.OK {
			t.Fatalf("Text(%v, %d): %s, error %d", exact, places, text, e)
		}
	}
}

// P2.6: the result of Floor is at most the fraction, and one more is greater. Near is the floor of the product with the scale, and a half (P2.4).
func TestFloorAndNear(t *testing.T) {
	r, is := rand.New(rand.NewSource(25)), must(t)
	for i := range 2000 {
		a := drawn(t, r, []int{2, 15, 40, 590}[i%4])
		floor, e := Floor(a)
		if e != api.OK {
			t.Fatalf("Floor(%v): error %d", a, e)
		}
		low := is(Make(floor, "1"))
		above, _ := Cmp(low, a)
		below, _ := Cmp(is(Add(low, api.Frac{N: "1", D: "1"})), a)
		if above > 0 || below <= 0 {
			t.Fatalf("Floor(%v): %s", a, floor)
		}
		scale := []int{1, 2, 65535, 1000000, api.MaxScale}[r.Intn(5)]
		want := new(big.Rat).Add(new(big.Rat).Mul(toRat(t, a), big.NewRat(int64(scale), 1)), big.NewRat(1, 2))
		nearest := new(big.Int).Div(want.Num(), want.Denom())
		n, e := Near(a, scale)
		if nearest.IsInt64() && (int64(n) != nearest.Int64() || e != api.OK) || !nearest.IsInt64() && (n != 0 || e != api.ErrBig) {
			t.Fatalf("Near(%v, %d): %d, error %d; want %v", a, scale, n, e, nearest)
		}
	}
}
