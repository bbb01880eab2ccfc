package number

import (
	"math"
	"math/big"
	"math/rand"
	"testing"
)

func signedSample(r *rand.Rand) Signed {
	return signed(sample(r, r.Intn(5)), r.Intn(2) == 0)
}

func signedBig(s Signed) *big.Int {
	b := toBig(s.Magnitude)
	if s.Below {
		b.Neg(b)
	}
	return b
}

func expectSigned(t *testing.T, name string, got Signed, want *big.Int) {
	t.Helper()
	if signedBig(got).Cmp(want) != 0 {
		t.Fatalf("%s: got %v, want %v", name, signedBig(got), want)
	}
	if got.IsZero() && got.Below {
		t.Fatalf("%s: 0 is below 0", name)
	}
}

func TestSigned(t *testing.T) {
	r := rand.New(rand.NewSource(5))
	for range 20000 {
		a, b := signedSample(r), signedSample(r)
		x, y := signedBig(a), signedBig(b)
		expectSigned(t, "Plus", a.Plus(b), new(big.Int).Add(x, y))
		expectSigned(t, "Minus", a.Minus(b), new(big.Int).Sub(x, y))
		expectSigned(t, "Minus itself", a.Minus(a), new(big.Int))
		expectSigned(t, "Times", a.Times(b), new(big.Int).Mul(x, y))
		expectSigned(t, "Negative", a.Negative(), new(big.Int).Neg(x))
		expectSigned(t, "Divisor", a.Divisor(b), new(big.Int).GCD(nil, nil, new(big.Int).Abs(x), new(big.Int).Abs(y)))
		n := r.Intn(6)
		expectSigned(t, "ToPower", a.ToPower(n), new(big.Int).Exp(x, big.NewInt(int64(n)), nil))
		if a.Sign() != x.Sign() || a.Order(b) != x.Cmp(y) {
			t.Fatalf("Sign, Order of %v and %v: %d, %d", x, y, a.Sign(), a.Order(b))
		}
		if text, ok := a.Text(100); text != x.String() || !ok {
			t.Fatalf("Text of %v: %s, %v", x, text, ok)
		}
		if !b.IsZero() {
			q, rest := a.Over(b)
			wantQ, wantRest := new(big.Int).DivMod(x, y, new(big.Int))
			expectSigned(t, "Over, quotient", q, wantQ)
			expectSigned(t, "Over, rest", rest, wantRest)
			expectSigned(t, "Part", a.Times(b).Part(b), x)
		}
	}
}

func TestOf(t *testing.T) {
	for _, n := range []int{0, 1, -1, 65535, math.MaxInt, -math.MaxInt, math.MinInt} {
		expectSigned(t, "Of", Of(n), big.NewInt(int64(n)))
	}
}
