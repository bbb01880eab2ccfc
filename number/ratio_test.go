package number

import (
	"math/big"
	"math/rand"
	"slices"
	"strings"
	"testing"

	"verdigris/api"
)

// ratioSample returns a fraction; many have short parts, or common divisors with others.
func ratioSample(r *rand.Rand) Ratio {
	under := signedSample(r)
	if under.IsZero() || r.Intn(3) == 0 {
		under = Of(1 + r.Intn(12))
	}
	return Lowest(signedSample(r), under)
}

func ratioBig(x Ratio) *big.Rat {
	return new(big.Rat).SetFrac(signedBig(x.Signed), signedBig(x.under))
}

// expectRatio checks a result, and that it is in lowest terms.
func expectRatio(t *testing.T, name string, got Ratio, want *big.Rat) {
	t.Helper()
	expectSigned(t, name+", numerator", got.Signed, want.Num())
	expectSigned(t, name+", denominator", got.under, want.Denom())
}

func TestRatio(t *testing.T) {
	r := rand.New(rand.NewSource(6))
	for range 5000 {
		a, b := ratioSample(r), ratioSample(r)
		x, y := ratioBig(a), ratioBig(b)
		expectRatio(t, "Lowest", a, x)
		expectSigned(t, "Denominator", a.Denominator(), x.Denom())
		expectRatio(t, "Plus", a.Plus(b), new(big.Rat).Add(x, y))
		expectRatio(t, "Minus", a.Minus(b), new(big.Rat).Sub(x, y))
		expectRatio(t, "Minus itself", a.Minus(a), new(big.Rat))
		expectRatio(t, "Times", a.Times(b), new(big.Rat).Mul(x, y))
		expectRatio(t, "Negative", a.Negative(), new(big.Rat).Neg(x))
		expectRatio(t, "Absolute", a.Absolute(), new(big.Rat).Abs(x))
		if !b.IsZero() {
			expectRatio(t, "Over", a.Over(b), new(big.Rat).Quo(x, y))
		}
		expectRatio(t, "ToPower", a.ToPower(3), new(big.Rat).Mul(x, new(big.Rat).Mul(x, x)))
		expectRatio(t, "Total", Total(a, b, a, b, a), new(big.Rat).Add(new(big.Rat).Mul(x, big.NewRat(3, 1)), new(big.Rat).Add(y, y)))
		if a.Sign() != x.Sign() || a.Order(b) != x.Cmp(y) {
			t.Fatalf("Sign, Order of %v and %v: %d, %d", x, y, a.Sign(), a.Order(b))
		}
		expectRounded(t, a, x)
	}
	expectRatio(t, "Total of none", Total(), new(big.Rat))
	for _, n := range []int{0, 1, -7} {
		expectRatio(t, "RatioOf", RatioOf(n), big.NewRat(int64(n), 1))
	}
}

func expectRounded(t *testing.T, a Ratio, x *big.Rat) {
	t.Helper()
	expectSigned(t, "Floor", a.Floor(), new(big.Int).Div(x.Num(), x.Denom()))
	scale := 60
	half := new(big.Rat).Add(new(big.Rat).Mul(x, big.NewRat(int64(scale), 1)), big.NewRat(1, 2))
	expectSigned(t, "Nearest", a.Nearest(Of(scale)), new(big.Int).Div(half.Num(), half.Denom()))
}

// A fraction is read and written with parts of api.MaxWhole digits at most.
func TestRatioAsFrac(t *testing.T) {
	nines := api.Whole(strings.Repeat("9", api.MaxWhole))
	for _, a := range []api.Frac{{N: "0", D: "1"}, {N: "-3", D: "2"}, {N: nines, D: "1"}, {N: "-" + nines, D: "10"}, {N: "1", D: nines}} {
		x, ok := ReadFrac(a)
		if back, also := x.Frac(); !ok || !also || back != a {
			t.Errorf("%v is read as %v, and written as %v: %v, %v", a, x, back, ok, also)
		}
	}
	for _, a := range []api.Frac{{}, {N: "1"}, {D: "1"}, {N: "2", D: "4"}, {N: "0", D: "2"}, {N: "1", D: "0"}, {N: "1", D: "-1"}, {N: "-0", D: "1"}, {N: nines + "0", D: "1"}, {N: "1", D: nines + "0"}} {
		if x, ok := ReadFrac(a); ok || x.Magnitude != nil || x.under.Magnitude != nil {
			t.Errorf("%v is read as %v", a, x)
		}
	}
	long := Lowest(Of(1), Of(7)).ToPower(1000)
	for _, x := range []Ratio{long, RatioOf(1).Over(long), long.Over(RatioOf(10).ToPower(2000))} {
		keep := slices.Clone(x.Magnitude)
		if a, ok := x.Frac(); ok || a != (api.Frac{}) || !slices.Equal(x.Magnitude, keep) {
			t.Errorf("a long fraction is written as %v", a)
		}
	}
}
