package band

import (
	"math/big"
	"math/rand"
	"testing"

	"verdigris/api"
	"verdigris/frac"
)

// drawnEnd returns an end; many are small, near to a power of 10, or near to the limit of those whose squares are valid.
func drawnEnd(r *rand.Rand) int {
	n := 0
	switch size := tenToThe(r.Intn(19)); r.Intn(6) {
	case 0:
		n = r.Intn(4)
	case 1:
		n = min(size+r.Intn(3)-1, most)
	case 2:
		n = 999*one + r.Intn(2*one)
	case 3:
		n = r.Intn(2 * one)
	default:
		n = r.Intn(size + 1)
	}
	if r.Intn(2) == 0 {
		return -n
	}
	return n
}

func tenToThe(n int) int {
	power := 1
	for range n {
		power *= 10
	}
	return power
}

func drawn(r *rand.Rand) api.Band {
	lo, hi := drawnEnd(r), drawnEnd(r)
	switch r.Intn(8) {
	case 0:
		hi = lo
	case 1:
		hi = min(lo+r.Intn(3), most)
	case 2:
		lo = 0
	}
	return bd(min(lo, hi), max(lo, hi))
}

// drawnWithin returns a band all of whose numbers are in b.
func drawnWithin(r *rand.Rand, b api.Band) api.Band {
	lo := b.Lo + r.Intn(b.Hi-b.Lo+1)
	return bd(lo, lo+r.Intn(b.Hi-lo+1))
}

// drawnNumber returns a number of a band, which mostly is not a whole number of units.
func drawnNumber(r *rand.Rand, b api.Band) *big.Rat {
	steps := int64(1 + r.Intn(7))
	share := big.NewRat(r.Int63n(steps+1), steps)
	n := new(big.Rat).Mul(share, big.NewRat(int64(b.Hi-b.Lo), one))
	return n.Add(n, numberOf(b.Lo))
}

func numberOf(end int) *big.Rat {
	return big.NewRat(int64(end), one)
}

func fracOf(x *big.Rat) api.Frac {
	return api.Frac{N: api.Whole(x.Num().String()), D: api.Whole(x.Denom().String())}
}

func inverse(x *big.Rat) *big.Rat {
	return new(big.Rat).Inv(x)
}

func floorOf(x *big.Rat) *big.Int {
	return new(big.Int).Div(x.Num(), x.Denom())
}

// tightestBand returns the tightest band of numbers, or ErrBig if it is not valid.
func tightestBand(numbers ...*big.Rat) (api.Band, api.Errno) {
	low, high := numbers[0], numbers[0]
	for _, x := range numbers {
		if x.Cmp(low) < 0 {
			low = x
		}
		if x.Cmp(high) > 0 {
			high = x
		}
	}
	lo := floorOf(new(big.Rat).Mul(low, big.NewRat(one, 1)))
	hi := floorOf(new(big.Rat).Mul(high, big.NewRat(-one, 1)))
	hi.Neg(hi)
	limit := big.NewInt(most)
	if lo.CmpAbs(limit) > 0 || hi.CmpAbs(limit) > 0 {
		return none, api.ErrBig
	}
	return bd(int(lo.Int64()), int(hi.Int64())), api.OK
}

// A law is an operation on two bands, and what it is on two numbers.
type law struct {
	name   string
	band   onTwo
	number func(x, y *big.Rat) *big.Rat
}

func laws() []law {
	return []law{
		{"Add", Add, func(x, y *big.Rat) *big.Rat { return new(big.Rat).Add(x, y) }},
		{"Sub", Sub, func(x, y *big.Rat) *big.Rat { return new(big.Rat).Sub(x, y) }},
		{"Mul", Mul, func(x, y *big.Rat) *big.Rat { return new(big.Rat).Mul(x, y) }},
		{"Div", Div, func(x, y *big.Rat) *big.Rat { return new(big.Rat).Mul(x, inverse(y)) }},
		{"Min", Min, func(x, y *big.Rat) *big.Rat {
			if x.Cmp(y) < 0 {
				return x
			}
			return y
		}},
		{"Max", Max, func(x, y *big.Rat) *big.Rat {
			if x.Cmp(y) > 0 {
				return x
			}
			return y
		}},
	}
}

func hasZero(b api.Band) bool {
	return b.Lo <= 0 && b.Hi >= 0
}

func (l law) expect(t *testing.T, a, b api.Band) {
	t.Helper()
	if l.name == "Div" && hasZero(b) {
		expectTwo(t, l.name, l.band, a, b, none, api.ErrZero)
		return
	}
	var results []*big.Rat
	for _, x := range []int{a.Lo, a.Hi} {
		for _, y := range []int{b.Lo, b.Hi} {
			results = append(results, l.number(numberOf(x), numberOf(y)))
		}
	}
	want, e := tightestBand(results...)
	expectTwo(t, l.name, l.band, a, b, want, e)
}

// Results are the tightest bands of the exact ones (P3.4, P3.5).
func TestAgainstLibrary(t *testing.T) {
	r := rand.New(rand.NewSource(31))
	for range 40000 {
		a, b := drawn(r), drawn(r)
		for _, l := range laws() {
			l.expect(t, a, b)
		}
		n, d := min(max(drawnEnd(r), -api.MaxRatio), api.MaxRatio), min(max(drawnEnd(r), 1), api.MaxRatio)
		ratio := big.NewRat(int64(n), int64(d))
		want, wantE := tightestBand(new(big.Rat).Mul(numberOf(a.Lo), ratio), new(big.Rat).Mul(numberOf(a.Hi), ratio))
		if c, e := Scale(a, n, d); c != want || e != wantE {
			t.Fatalf("Scale(%v, %d, %d): %v, error %d; want %v, error %d", a, n, d, c, e, want, wantE)
		}
		squares := []*big.Rat{new(big.Rat).Mul(numberOf(a.Lo), numberOf(a.Lo)), new(big.Rat).Mul(numberOf(a.Hi), numberOf(a.Hi))}
		if hasZero(a) {
			squares = append(squares, new(big.Rat))
		}
		want, wantE = tightestBand(squares...)
		if c, e := Sqr(a); c != want || e != wantE {
			t.Fatalf("Sqr(%v): %v, error %d; want %v, error %d", a, c, e, want, wantE)
		}
	}
}

// All small bands: units whose products are quarters of a unit, and units whose quotients are great (P3.4).
func TestSmallBands(t *testing.T) {
	var small []api.Band
	for lo := -4; lo <= 4; lo++ {
		for hi := lo; hi <= 4; hi++ {
			small = append(small, bd(lo, hi))
		}
	}
	for _, unit := range []int{1, 500000, one} {
		for _, a := range small {
			for _, b := range small {
				for _, l := range laws() {
					l.expect(t, bd(a.Lo*unit, a.Hi*unit), bd(b.Lo*unit, b.Hi*unit))
				}
			}
		}
	}
}

// holds checks that a result, unless it is an error, contains a number.
func holds(t *testing.T, name string, c api.Band, e api.Errno, x *big.Rat) {
	t.Helper()
	if e != api.OK {
		return
	}
	if has, e := Has(c, fracOf(x)); !has || e != api.OK {
		t.Fatalf("%s: %v does not contain %v, error %d", name, c, x, e)
	}
}

// P3.6: results contain the exact ones for all numbers of the arguments.
func TestResultsContainNumbers(t *testing.T) {
	r := rand.New(rand.NewSource(32))
	for range 4000 {
		a, b := drawn(r), drawn(r)
		x, y := drawnNumber(r, a), drawnNumber(r, b)
		for _, l := range laws() {
			if c, e := l.band(a, b); e == api.OK {
				holds(t, l.name, c, e, l.number(x, y))
			}
		}
		c, e := Hull(a, b)
		holds(t, "Hull", c, e, x)
		holds(t, "Hull", c, e, y)
		c, e = Neg(a)
		holds(t, "Neg", c, e, new(big.Rat).Neg(x))
		c, e = Abs(a)
		holds(t, "Abs", c, e, new(big.Rat).Abs(x))
		c, e = Sqr(a)
		holds(t, "Sqr", c, e, new(big.Rat).Mul(x, x))
		c, e = Scale(a, -7, 3)
		holds(t, "Scale", c, e, new(big.Rat).Mul(x, big.NewRat(-7, 3)))
		inBoth, _ := Has(b, fracOf(x))
		if c, e = Meet(a, b); inBoth {
			if e != api.OK {
				t.Fatalf("Meet(%v, %v): error %d, but %v is in both", a, b, e, x)
			}
			holds(t, "Meet", c, e, x)
		}
	}
}

// P3.6: smaller arguments give smaller results.
func TestSmallerArguments(t *testing.T) {
	r := rand.New(rand.NewSource(33))
	within := func(name string, inner api.Band, innerE api.Errno, outer api.Band, outerE api.Errno) {
		t.Helper()
		if outerE == api.OK && (innerE != api.OK || inner.Lo < outer.Lo || inner.Hi > outer.Hi) {
			t.Fatalf("%s: %v, error %d, is not in %v", name, inner, innerE, outer)
		}
	}
	for range 20000 {
		a, b := drawn(r), drawn(r)
		p, q := drawnWithin(r, a), drawnWithin(r, b)
		for name, f := range map[string]onTwo{"Add": Add, "Sub": Sub, "Mul": Mul, "Div": Div, "Min": Min, "Max": Max, "Hull": Hull} {
			inner, innerE := f(p, q)
			outer, outerE := f(a, b)
			within(name, inner, innerE, outer, outerE)
		}
		if inner, e := Meet(p, q); e == api.OK {
			outer, outerE := Meet(a, b)
			within("Meet", inner, e, outer, outerE)
		}
		n, d := r.Intn(2001)-1000, 1+r.Intn(1000)
		for name, f := range map[string]func(api.Band) (api.Band, api.Errno){
			"Neg": Neg, "Abs": Abs, "Sqr": Sqr,
			"Scale": func(b api.Band) (api.Band, api.Errno) { return Scale(b, n, d) },
			"Clamp": func(b api.Band) (api.Band, api.Errno) { return Clamp(b, n-d, n+d) },
		} {
			inner, innerE := f(p)
			outer, outerE := f(a)
			within(name, inner, innerE, outer, outerE)
		}
	}
}

// P3.6: sums and products do not depend on the order; adding and subtracting the same point gives the band back.
func TestOrderAndBack(t *testing.T) {
	r := rand.New(rand.NewSource(34))
	for range 20000 {
		a, b := drawn(r), drawn(r)
		for name, f := range map[string]onTwo{"Add": Add, "Mul": Mul} {
			c, e := f(a, b)
			expectTwo(t, name, f, b, a, c, e)
		}
		point := bd(b.Lo, b.Lo)
		if c, e := Add(a, point); e == api.OK {
			expectTwo(t, "Sub", Sub, c, point, a, api.OK)
		}
		if c, e := Sub(a, point); e == api.OK {
			expectTwo(t, "Add", Add, c, point, a, api.OK)
		}
	}
}

// P3.6: a fraction lies in the band around it, which is at most one unit wide, and is a point if an end is the fraction (P3.1).
func TestFractionLiesInBandAround(t *testing.T) {
	r := rand.New(rand.NewSource(35))
	for range 20000 {
		x := new(big.Rat).Add(numberOf(drawnEnd(r)), big.NewRat(r.Int63n(5)-2, 1+r.Int63n(3*one)))
		want, wantE := tightestBand(x)
		b, e := Around(fracOf(x))
		if b != want || e != wantE {
			t.Fatalf("Around(%v): %v, error %d; want %v, error %d", x, b, e, want, wantE)
		}
		holds(t, "Around", b, e, x)
		if width, _ := Width(b); width > 1 {
			t.Fatalf("Around(%v): %v", x, b)
		}
		if e != api.OK {
			continue
		}
		for _, f := range []func(api.Band) (api.Frac, api.Errno){Low, High} {
			end, _ := f(b)
			point, e := Around(end)
			n, _ := frac.Near(end, one)
			if point != bd(n, n) || e != api.OK {
				t.Fatalf("Around(%v): %v, error %d", end, point, e)
			}
		}
	}
}
