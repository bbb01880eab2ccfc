package whole

import (
	"math/big"
	"math/rand"
	"testing"

	"verdigris/api"
)

// drawn returns a whole number of 1 to most digits, many of which are the same.
func drawn(r *rand.Rand, most int) api.Whole {
	digits := make([]byte, 1+r.Intn(most))
	common := byte('0' + 9*r.Intn(2))
	for i := range digits {
		digits[i] = common
		if r.Intn(3) == 0 {
			digits[i] = byte('0' + r.Intn(10))
		}
	}
	if digits[0] == '0' {
		digits[0] = '1'
	}
	switch a := api.Whole(digits); r.Intn(9) {
	case 0, 1, 2, 3:
		return a
	case 4:
		return a[:1]
	case 5:
		return "0"
	default:
		return "-" + a
	}
}

func toBig(t *testing.T, a api.Whole) *big.Int {
	t.Helper()
	if e := Check(a); e != api.OK {
		t.Fatalf("result %q is not valid", a)
	}
	b, ok := new(big.Int).SetString(string(a), 10)
	if !ok {
		t.Fatalf("result %q is no number", a)
	}
	return b
}

// must returns a result that comes without an error.
func must(t *testing.T) func(a api.Whole, e api.Errno) api.Whole {
	return func(a api.Whole, e api.Errno) api.Whole {
		t.Helper()
		if e != api.OK {
			t.Fatalf("error %d", e)
		}
		return a
	}
}

// expect compares a result with the number that it should be, or with ErrBig if this has too many digits.
func expect(t *testing.T, name string, a, b, got api.Whole, e api.Errno, want *big.Int) {
	t.Helper()
	text, wantE := api.Whole(want.String()), api.OK
	if len(new(big.Int).Abs(want).String()) > api.MaxWhole {
		text, wantE = "", api.ErrBig
	}
	if got != text || e != wantE {
		t.Fatalf("%s(%s, %s): %s, error %d", name, a, b, got, e)
	}
}

// Results agree with those of the library (P1.2 to P1.5).
func TestAgainstLibrary(t *testing.T) {
	r := rand.New(rand.NewSource(11))
	for i := range 6000 {
		most := []int{4, 25, 70, 350, 600}[i%5]
		a, b := drawn(r, most), drawn(r, most)
		x, y := toBig(t, a), toBig(t, b)
		c, e := Add(a, b)
		expect(t, "Add", a, b, c, e, new(big.Int).Add(x, y))
		c, e = Sub(a, b)
		expect(t, "Sub", a, b, c, e, new(big.Int).Sub(x, y))
		c, e = Mul(a, b)
		expect(t, "Mul", a, b, c, e, new(big.Int).Mul(x, y))
		c, e = Gcd(a, b)
		expect(t, "Gcd", a, b, c, e, new(big.Int).GCD(nil, nil, new(big.Int).Abs(x), new(big.Int).Abs(y)))
		if n, e := Cmp(a, b); n != x.Cmp(y) || e != api.OK {
			t.Fatalf("Cmp(%s, %s): %d, error %d", a, b, n, e)
		}
		if b != "0" {
			q, rest, e := Div(a, b)
			wantQ, wantRest := new(big.Int).DivMod(x, y, new(big.Int))
			expect(t, "Div, quotient", a, b, q, e, wantQ)
			expect(t, "Div, remainder", a, b, rest, e, wantRest)
		}
		n := r.Intn(api.MaxPower + 1)
		c, e = Pow(a, n)
		expect(t, "Pow", a, Of(n), c, e, new(big.Int).Exp(x, big.NewInt(int64(n)), nil))
	}
}

// P1.6: sums and products.
func TestOrderAndDistribution(t *testing.T) {
	r, is := rand.New(rand.NewSource(12)), must(t)
	for range 1000 {
		a, b, c := drawn(r, 250), drawn(r, 250), drawn(r, 250)
		if is(Add(a, b)) != is(Add(b, a)) || is(Mul(a, b)) != is(Mul(b, a)) {
			t.Fatalf("order of %s and %s", a, b)
		}
		if is(Add(is(Add(a, b)), c)) != is(Add(a, is(Add(b, c)))) {
			t.Fatalf("sum of %s, %s and %s", a, b, c)
		}
		if is(Mul(a, is(Add(b, c)))) != is(Add(is(Mul(a, b)), is(Mul(a, c)))) {
			t.Fatalf("product of %s with the sum of %s and %s", a, b, c)
		}
	}
}

// P1.6: the divisor divides both, and every common divisor divides it.
func TestDivisor(t *testing.T) {
	r, is := rand.New(rand.NewSource(13)), must(t)
	for range 1000 {
		common := drawn(r, 200)
		a, b := is(Mul(common, drawn(r, 300))), is(Mul(common, drawn(r, 300)))
		divisor := is(Gcd(a, b))
		for _, x := range []struct{ number, by api.Whole }{{a, divisor}, {b, divisor}, {divisor, common}} {
			if x.by == "0" {
				if x.number != "0" {
					t.Fatalf("0 divides %s", x.number)
				}
			} else if _, rest, e := Div(x.number, x.by); rest != "0" || e != api.OK {
				t.Fatalf("%s divides %s with the remainder %s, error %d", x.by, x.number, rest, e)
			}
		}
	}
}

// P1.6: the powers of a root and of the next number are around the number.
func TestRootPowers(t *testing.T) {
	r, is := rand.New(rand.NewSource(14)), must(t)
	for i := range 2000 {
		a, k := is(Abs(drawn(r, 590))), 1+i%api.MaxRoot
		root := is(Root(a, k))
		next := is(Add(root, "1"))
		if c, e := Cmp(is(Pow(root, k)), a); c > 0 || e != api.OK {
			t.Fatalf("Root(%s, %d): %s is too great", a, k, root)
		}
		if c, e := Cmp(is(Pow(next, k)), a); c <= 0 || e != api.OK {
			t.Fatalf("Root(%s, %d): %s is too small", a, k, root)
		}
	}
}

// P1.6: multiplying and dividing by the same number gives the number back.
func TestMulAndDiv(t *testing.T) {
	r, is := rand.New(rand.NewSource(15)), must(t)
	for range 2000 {
		a, b := drawn(r, 300), drawn(r, 300)
		if b == "0" {
			continue
		}
		if q, rest, e := Div(is(Mul(a, b)), b); q != a || rest != "0" || e != api.OK {
			t.Fatalf("%s times %s, divided again: %s, %s, error %d", a, b, q, rest, e)
		}
	}
}
