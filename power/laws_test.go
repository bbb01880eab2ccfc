package power

import (
	"math/big"
	"math/rand"
	"slices"
	"testing"

	"verdigris/api"
	"verdigris/band"
	"verdigris/frac"
)

// drawnEnd returns an end that is not negative; many are small, near to a power of 10, or have powers that are whole numbers of units.
func drawnEnd(r *rand.Rand) int {
	size := 1
	for range r.Intn(19) {
		size *= 10
	}
	switch r.Intn(6) {
	case 0:
		return r.Intn(4)
	case 1:
		return min(size+r.Intn(3)-1, most)
	case 2:
		return r.Intn(30) * one
	case 3:
		n := r.Intn(1000)
		return n * n * n * 1000
	case 4:
		return r.Intn(2 * one)
	}
	return r.Intn(size + 1)
}

func drawn(r *rand.Rand) api.Band {
	lo, hi := drawnEnd(r), drawnEnd(r)
	switch r.Intn(8) {
	case 0:
		hi = lo
	case 1:
		hi = min(lo+r.Intn(3), most)
	case 2:
		lo = 0
	}
	return bd(min(lo, hi), max(lo, hi))
}

// drawnWithin returns a band all of whose numbers are in b.
func drawnWithin(r *rand.Rand, b api.Band) api.Band {
	lo := b.Lo + r.Intn(b.Hi-b.Lo+1)
	return bd(lo, lo+r.Intn(b.Hi-lo+1))
}

func drawnExponents(r *rand.Rand) (p, q int) {
	if r.Intn(3) == 0 {
		return 1, 1 + r.Intn(api.MaxRoot)
	}
	return 1 + r.Intn(api.MaxNumer), 1 + r.Intn(api.MaxRoot)
}

func toPower(n, exponent int) *big.Int {
	return new(big.Int).Exp(big.NewInt(int64(n)), big.NewInt(int64(exponent)), nil)
}

// side tells on which side of the power of x a number y of units is: y^q and x^p are compared without a root.
func side(y, x, p, q int) int {
	left := toPower(y, q)
	left.Mul(left, toPower(one, p))
	right := toPower(x, p)
	right.Mul(right, toPower(one, q))
	return left.Cmp(right)
}

// expectTightest checks a result, and that one is missing only if the greatest number has no valid band.
func expectTightest(t *testing.T, b api.Band, p, q int) {
	t.Helper()
	c, e := Power(b, p, q)
	if e == api.ErrBig {
		if c != none || side(most, b.Hi, p, q) >= 0 {
			t.Fatalf("Power(%v, %d, %d): %v, ErrBig", b, p, q, c)
		}
		return
	}
	lo := side(c.Lo, b.Lo, p, q) <= 0 && side(c.Lo+1, b.Lo, p, q) > 0
	hi := side(c.Hi, b.Hi, p, q) >= 0 && (c.Hi == 0 || side(c.Hi-1, b.Hi, p, q) < 0)
	if e != api.OK || c.Lo < 0 || !lo || !hi || band.Check(c) != api.OK {
		t.Fatalf("Power(%v, %d, %d): %v, error %d", b, p, q, c, e)
	}
}

// The ends are the tightest ones, by the definition of the power (P4.1).
func TestPowersAreTightest(t *testing.T) {
	r := rand.New(rand.NewSource(41))
	for range 20000 {
		p, q := drawnExponents(r)
		expectTightest(t, drawn(r), p, q)
	}
	for p := 1; p <= api.MaxNumer; p++ {
		for q := 1; q <= api.MaxRoot; q++ {
			for _, n := range []int{0, 1, 2, one / 2, one - 1, one, one + 1, 2 * one, most} {
				expectTightest(t, point(n), p, q)
			}
		}
	}
}

// P4.4: powers rise with the number, the ends of a result belong to the ends of the band, and smaller bands have smaller results.
func TestPowersRise(t *testing.T) {
	r := rand.New(rand.NewSource(42))
	for range 5000 {
		b := drawn(r)
		p, q := drawnExponents(r)
		c, e := Power(b, p, q)
		low, lowE := Power(point(b.Lo), p, q)
		high, highE := Power(point(b.Hi), p, q)
		if e != highE || lowE != api.OK && e == api.OK {
			t.Fatalf("Power(%v, %d, %d): error %d, but %d and %d for its ends", b, p, q, e, lowE, highE)
		}
		if e != api.OK {
			continue
		}
		if c != bd(low.Lo, high.Hi) || low.Hi > high.Hi || high.Hi-high.Lo > 1 || low.Hi-low.Lo > 1 {
			t.Fatalf("Power(%v, %d, %d): %v, but %v and %v for its ends", b, p, q, c, low, high)
		}
		if inner, e := Power(drawnWithin(r, b), p, q); e != api.OK || inner.Lo < c.Lo || inner.Hi > c.Hi {
			t.Fatalf("a part of %v has the powers %v, error %d, which are not in %v", b, inner, e, c)
		}
	}
}

// P4.4: the q-th power of a q-th root contains the band.
func TestPowerOfRoot(t *testing.T) {
	r := rand.New(rand.NewSource(43))
	for range 5000 {
		b, q := drawn(r), 1+r.Intn(api.MaxRoot)
		root, e := Root(b, q)
		if e != api.OK {
			t.Fatalf("Root(%v, %d): error %d", b, q, e)
		}
		back, e := Power(root, q, 1)
		if e == api.ErrBig && b.Hi > most/2 {
			continue
		}
		if e != api.OK || back.Lo > b.Lo || back.Hi < b.Hi {
			t.Fatalf("Power of Root(%v, %d): %v, error %d", b, q, back, e)
		}
	}
}

// drawnFrac returns a fraction; many are powers.
func drawnFrac(t *testing.T, r *rand.Rand) api.Frac {
	t.Helper()
	a, e := frac.Of(r.Intn(100), 1+r.Intn(100))
	if e != api.OK {
		t.Fatal(e)
	}
	if r.Intn(3) > 0 {
		a, _ = frac.Pow(a, r.Intn(api.MaxRoot+1))
	}
	return a
}

// perfectRoot reports whether a number that is not negative is a q-th power; halving finds its root.
func perfectRoot(a api.Whole, q int) bool {
	n, _ := new(big.Int).SetString(string(a), 10)
	low, high := big.NewInt(0), new(big.Int).Add(n, big.NewInt(1))
	for {
		mid := new(big.Int).Add(low, high)
		mid.Rsh(mid, 1)
		if mid.Cmp(low) == 0 {
			return new(big.Int).Exp(low, big.NewInt(int64(q)), nil).Cmp(n) == 0
		}
		if new(big.Int).Exp(mid, big.NewInt(int64(q)), nil).Cmp(n) > 0 {
			high = mid
		} else {
			low = mid
		}
	}
}

// The q-th power of the result is the p-th power, and there is none only if one part of that has no root (P4.2).
func TestExactByDefinition(t *testing.T) {
	r := rand.New(rand.NewSource(44))
	found, missed := 0, 0
	for range 3000 {
		a := drawnFrac(t, r)
		p, q := 1+r.Intn(api.MaxRoot), 1+r.Intn(api.MaxRoot)
		want, e := frac.Pow(a, p)
		if e != api.OK {
			t.Fatalf("Pow(%v, %d): error %d", a, p, e)
		}
		b, e := Exact(a, p, q)
		rational := perfectRoot(want.N, q) && perfectRoot(want.D, q)
		if !rational {
			missed++
			if b != (api.Frac{}) || e != api.ErrNone {
				t.Fatalf("Exact(%v, %d, %d): %v, error %d", a, p, q, b, e)
			}
			continue
		}
		found++
		if back, backE := frac.Pow(b, q); e != api.OK || back != want || backE != api.OK {
			t.Fatalf("Exact(%v, %d, %d): %v, error %d", a, p, q, b, e)
		}
	}
	if found < 500 || missed < 500 {
		t.Errorf("%d found, %d missed", found, missed)
	}
}

// P4.4: a power of a product is the product of the powers; and a power lies in the band of the powers.
func TestExactOfProducts(t *testing.T) {
	r := rand.New(rand.NewSource(45))
	for range 3000 {
		a, b := drawnFrac(t, r), drawnFrac(t, r)
		p, q := 1+r.Intn(api.MaxRoot), 1+r.Intn(api.MaxRoot)
		x, e := Exact(a, p, q)
		if e != api.OK {
			continue
		}
		if around, e := band.Around(a); e == api.OK {
			expectWithin(t, around, p, q, x)
		}
		y, e := Exact(b, p, q)
		if e != api.OK {
			continue
		}
		product, _ := frac.Mul(a, b)
		want, _ := frac.Mul(x, y)
		expectExact(t, product, p, q, want, api.OK)
	}
}

func expectWithin(t *testing.T, b api.Band, p, q int, x api.Frac) {
	t.Helper()
	c, e := Power(b, p, q)
	if e == api.ErrBig {
		return
	}
	if has, hasE := band.Has(c, x); e != api.OK || !has || hasE != api.OK {
		t.Fatalf("Power(%v, %d, %d): %v, error %d, which does not contain %v", b, p, q, c, e, x)
	}
}

func drawnList(r *rand.Rand) []api.Band {
	l := make([]api.Band, 1+r.Intn(api.MaxNorm))
	for i := range l {
		switch l[i] = drawn(r); r.Intn(3) {
		case 0:
			l[i], _ = band.Neg(l[i])
		case 1:
			l[i].Lo = -drawnEnd(r)
		}
	}
	return l
}

// squaresOf returns the sum of the squares of some numbers of units.
func squaresOf(numbers ...int) *big.Int {
	sum := new(big.Int)
	for _, n := range numbers {
		sum.Add(sum, toPower(n, 2))
	}
	return sum
}

// The ends are the tightest ones, by the definition of the norm (P4.3).
func TestNormsAreTightest(t *testing.T) {
	r := rand.New(rand.NewSource(46))
	for range 20000 {
		l := drawnList(r)
		var least, greatest []int
		for _, b := range l {
			size, _ := band.Abs(b)
			least, greatest = append(least, size.Lo), append(greatest, size.Hi)
		}
		low, high := squaresOf(least...), squaresOf(greatest...)
		c, e := Norm(l)
		if e == api.ErrBig {
			if c != none || high.Cmp(squaresOf(most)) <= 0 {
				t.Fatalf("Norm(%v): %v, ErrBig", l, c)
			}
			continue
		}
		lo := squaresOf(c.Lo).Cmp(low) <= 0 && squaresOf(c.Lo+1).Cmp(low) > 0
		hi := squaresOf(c.Hi).Cmp(high) >= 0 && (c.Hi == 0 || squaresOf(c.Hi-1).Cmp(high) < 0)
		if e != api.OK || c.Lo < 0 || !lo || !hi || band.Check(c) != api.OK {
			t.Fatalf("Norm(%v): %v, error %d", l, c, e)
		}
	}
}

// P4.4: the norm of one band is its absolute value; a norm does not depend on the order, and not on signs; and smaller bands have smaller norms.
func TestNormLaws(t *testing.T) {
	r := rand.New(rand.NewSource(47))
	for range 5000 {
		l := drawnList(r)
		size, sizeE := band.Abs(l[0])
		expectNorm(t, l[:1], size, sizeE)
		want, wantE := Norm(l)
		other, inner := slices.Clone(l), slices.Clone(l)
		r.Shuffle(len(l), func(i, j int) { other[i], other[j] = other[j], other[i] })
		for i := range other {
			if r.Intn(2) == 0 {
				other[i], _ = band.Neg(other[i])
			}
			inner[i] = drawnWithin(r, inner[i])
		}
		expectNorm(t, other, want, wantE)
		if wantE != api.OK {
			continue
		}
		if c, e := Norm(inner); e != api.OK || c.Lo < want.Lo || c.Hi > want.Hi {
			t.Fatalf("Norm(%v): %v, error %d, which is not in %v", inner, c, e, want)
		}
	}
}
