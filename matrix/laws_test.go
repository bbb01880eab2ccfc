package matrix

import (
	"math/big"
	"math/rand"
	"slices"
	"strings"
	"testing"

	"verdigris/api"
	"verdigris/band"
)

// drawnFrac returns a fraction whose parts have at most that many digits, or often a small whole number, so that many matrices have elements which cancel.
func drawnFrac(r *rand.Rand, digits int) api.Frac {
	if r.Intn(3) == 0 {
		return fracOf(big.NewRat(int64(r.Intn(5)-2), 1))
	}
	below := new(big.Int).Exp(big.NewInt(10), big.NewInt(int64(1+r.Intn(digits))), nil)
	n, d := new(big.Int).Rand(r, below), new(big.Int).Rand(r, below)
	if r.Intn(2) == 0 {
		n.Neg(n)
	}
	return fracOf(new(big.Rat).SetFrac(n, d.Add(d, big.NewInt(1))))
}

func fracOf(x *big.Rat) api.Frac {
	return api.Frac{N: api.Whole(x.Num().String()), D: api.Whole(x.Denom().String())}
}

func drawnFracs(r *rand.Rand, n, digits int) []api.Frac {
	l := make([]api.Frac, n)
	for i := range l {
		l[i] = drawnFrac(r, digits)
	}
	return l
}

func drawnMat(r *rand.Rand, height, width, digits int) api.Mat {
	m := make(api.Mat, height)
	for i := range m {
		m[i] = drawnFracs(r, width, digits)
	}
	return m
}

func toRat(a api.Frac) *big.Rat {
	x, _ := new(big.Rat).SetString(string(a.N) + "/" + string(a.D))
	return x
}

func toRats(m api.Mat) [][]*big.Rat {
	all := make([][]*big.Rat, len(m))
	for i, row := range m {
		for _, a := range row {
			all[i] = append(all[i], toRat(a))
		}
	}
	return all
}

func isLong(x *big.Rat) bool {
	return len(strings.TrimPrefix(x.Num().String(), "-")) > api.MaxWhole || len(x.Denom().String()) > api.MaxWhole
}

// fromRats returns the matrix of the numbers, or ErrBig if a part has too many digits.
func fromRats(all [][]*big.Rat) (api.Mat, api.Errno) {
	m := make(api.Mat, len(all))
	for i, row := range all {
		for _, x := range row {
			if isLong(x) {
				return nil, api.ErrBig
			}
			m[i] = append(m[i], fracOf(x))
		}
	}
	return m, api.OK
}

func productOf(a, b [][]*big.Rat) [][]*big.Rat {
	all := make([][]*big.Rat, len(a))
	for i, row := range a {
		for j := range b[0] {
			total := new(big.Rat)
			for k, x := range row {
				total.Add(total, new(big.Rat).Mul(x, b[k][j]))
			}
			all[i] = append(all[i], total)
		}
	}
	return all
}

// without returns the elements that are neither in a row nor in a column.
func without(m [][]*big.Rat, row, column int) [][]*big.Rat {
	all := slices.Delete(slices.Clone(m), row, row+1)
	for i := range all {
		all[i] = slices.Delete(slices.Clone(all[i]), column, column+1)
	}
	return all
}

// cofactor is the determinant of what is neither in a row nor in a column, with its sign.
func cofactor(m [][]*big.Rat, row, column int) *big.Rat {
	x := detOf(without(m, row, column))
	if (row+column)%2 == 1 {
		x.Neg(x)
	}
	return x
}

// detOf expands the determinant along the first row.
func detOf(m [][]*big.Rat) *big.Rat {
	if len(m) == 0 {
		return big.NewRat(1, 1)
	}
	total := new(big.Rat)
	for j, x := range m[0] {
		total.Add(total, new(big.Rat).Mul(x, cofactor(m, 0, j)))
	}
	return total
}

// inverseOf returns the cofactors, rows and columns exchanged, divided by the determinant, which is not 0.
func inverseOf(m [][]*big.Rat, det *big.Rat) [][]*big.Rat {
	all := make([][]*big.Rat, len(m))
	for i := range m {
		for j := range m {
			all[i] = append(all[i], new(big.Rat).Quo(cofactor(m, j, i), det))
		}
	}
	return all
}

// Results agree with those that the library's fractions lead to, whatever is met on the way (P5.2, P5.3).
func TestAgainstLibrary(t *testing.T) {
	r := rand.New(rand.NewSource(51))
	long, singular := 0, 0
	for i := range 600 {
		digits := []int{1, 2, 10, 40, 75, 150, 300, 600}[i%8]
		n := 1 + r.Intn(api.MaxRows)
		a, b := drawnMat(r, 1+r.Intn(api.MaxRows), n, digits), drawnMat(r, n, 1+r.Intn(api.MaxRows), digits)
		want, wantE := fromRats(productOf(toRats(a), toRats(b)))
		m, e := Mul(a, b)
		expectMat(t, "Mul", m, e, want, wantE)
		if wantE == api.ErrBig {
			long++
		}
		square := drawnMat(r, n, n, digits)
		if r.Intn(4) == 0 {
			square[r.Intn(n)] = square[r.Intn(n)]
		}
		expectAgrees(t, square, &singular)
	}
	if long < 100 || singular < 50 {
		t.Errorf("%d long products, %d singular matrices", long, singular)
	}
}

func expectAgrees(t *testing.T, m api.Mat, singular *int) {
	t.Helper()
	x := toRats(m)
	det := detOf(x)
	if isLong(det) {
		expectDet(t, m, api.Frac{}, api.ErrBig)
	} else {
		expectDet(t, m, fracOf(det), api.OK)
	}
	if det.Sign() == 0 {
		*singular++
		expectInverse(t, m, nil, api.ErrZero)
		return
	}
	want, wantE := fromRats(inverseOf(x, det))
	expectInverse(t, m, want, wantE)
}

// P5.5: products are associative, the determinant of a product is the product of the determinants, and transposing reverses a product.
func TestLawsOfProducts(t *testing.T) {
	r := rand.New(rand.NewSource(52))
	mul := func(a, b api.Mat) api.Mat {
		m, e := Mul(a, b)
		if e != api.OK {
			t.Fatalf("Mul(%v, %v): error %d", a, b, e)
		}
		return m
	}
	transpose := func(a api.Mat) api.Mat {
		m, e := Transpose(a)
		if e != api.OK {
			t.Fatalf("Transpose(%v): error %d", a, e)
		}
		return m
	}
	det := func(a api.Mat) *big.Rat {
		x, e := Det(a)
		if e != api.OK {
			t.Fatalf("Det(%v): error %d", a, e)
		}
		return toRat(x)
	}
	for range 1000 {
		size := func() int { return 1 + r.Intn(api.MaxRows) }
		i, j, k, l := size(), size(), size(), size()
		a, b, c := drawnMat(r, i, j, 4), drawnMat(r, j, k, 4), drawnMat(r, k, l, 4)
		if x, y := mul(mul(a, b), c), mul(a, mul(b, c)); !Same(x, y) {
			t.Fatalf("%v, %v, %v: products %v and %v", a, b, c, x, y)
		}
		if x, y := transpose(mul(a, b)), mul(transpose(b), transpose(a)); !Same(x, y) {
			t.Fatalf("%v, %v: transposed products %v and %v", a, b, x, y)
		}
		if !Same(transpose(transpose(a)), a) {
			t.Fatalf("%v is not the same after it is transposed twice", a)
		}
		a, b = drawnMat(r, i, i, 4), drawnMat(r, i, i, 4)
		if x, y := det(mul(a, b)), new(big.Rat).Mul(det(a), det(b)); x.Cmp(y) != 0 {
			t.Fatalf("%v, %v: determinants %v and %v", a, b, x, y)
		}
		if x, y := det(transpose(a)), det(a); x.Cmp(y) != 0 {
			t.Fatalf("%v: determinants %v and %v", a, x, y)
		}
	}
}

// P5.5: a matrix and its inverse have the identity as their products, and multiplying with the identity changes nothing.
func TestLawsOfInverses(t *testing.T) {
	r := rand.New(rand.NewSource(53))
	found := 0
	for range 1000 {
		n := 1 + r.Intn(api.MaxRows)
		m := drawnMat(r, n, n, 10)
		identity, _ := Identity(n)
		ones, _ := Diagonal(slices.Repeat(frs("1"), n))
		expectMat(t, "Diagonal", ones, api.OK, identity, api.OK)
		same, e := Mul(m, identity)
		expectMat(t, "Mul by Identity", same, e, m, api.OK)
		inverse, e := Inverse(m)
		if e == api.ErrZero {
			continue
		}
		found++
		product, productE := Mul(m, inverse)
		expectMat(t, "Mul by Inverse", product, productE, identity, api.OK)
		product, productE = Mul(inverse, m)
		expectMat(t, "Mul of Inverse", product, productE, identity, api.OK)
		expectInverse(t, inverse, m, api.OK)
	}
	if found < 500 {
		t.Errorf("%d inverses", found)
	}
}

// P5.2: applying a matrix multiplies it by the list as a column.
func TestApplyIsMul(t *testing.T) {
	r := rand.New(rand.NewSource(54))
	for i := range 500 {
		n := 1 + r.Intn(api.MaxRows)
		m, l := drawnMat(r, 1+r.Intn(api.MaxRows), n, 1+i), drawnFracs(r, n, 1+i)
		column, _ := Transpose(api.Mat{l})
		product, e := Mul(m, column)
		if e != api.OK {
			expectApply(t, m, l, nil, e)
			continue
		}
		row, _ := Transpose(product)
		expectApply(t, m, l, row[0], api.OK)
	}
}

// bandsOf makes the operations one by one (P5.4).
func bandsOf(m api.Mat, l []api.Band) ([]api.Band, api.Errno) {
	var results []api.Band
	for _, row := range m {
		var total api.Band
		for j, a := range row {
			around, e := band.Around(a)
			if e != api.OK {
				return nil, e
			}
			product, e := band.Mul(around, l[j])
			if e != api.OK {
				return nil, e
			}
			if j == 0 {
				total = product
				continue
			}
			if total, e = band.Add(total, product); e != api.OK {
				return nil, e
			}
		}
		results = append(results, total)
	}
	return results, api.OK
}

// P5.4
func TestBandsByOperations(t *testing.T) {
	r := rand.New(rand.NewSource(55))
	failed := 0
	for i := range 5000 {
		n := 1 + r.Intn(api.MaxRows)
		m := drawnMat(r, 1+r.Intn(api.MaxRows), n, 1+i%8)
		l := make([]api.Band, n)
		for j := range l {
			x, y := r.Intn(2*most+1)-most, r.Intn(2*most+1)-most
			if r.Intn(10) > 0 {
				x, y = x/one, y/one
			}
			l[j] = bd(min(x, y), max(x, y))
		}
		want, e := bandsOf(m, l)
		if e != api.OK {
			failed++
		}
		expectBands(t, m, l, want, e)
	}
	if failed < 500 || failed > 4500 {
		t.Errorf("%d without a result", failed)
	}
}

// P5.5: the bands of points around the elements contain the exact results; and bands in the arguments lead to none that are wider (P2).
func TestBandsContainResults(t *testing.T) {
	r := rand.New(rand.NewSource(56))
	for range 3000 {
		n := 1 + r.Intn(api.MaxRows)
		m, l := drawnMat(r, 1+r.Intn(api.MaxRows), n, 2), drawnFracs(r, n, 2)
		around, wider := make([]api.Band, n), make([]api.Band, n)
		for i, a := range l {
			around[i], _ = band.Around(a)
			wider[i] = bd(around[i].Lo-r.Intn(one), around[i].Hi+r.Intn(one))
		}
		results, e := Apply(m, l)
		inner, innerE := Bands(m, around)
		outer, outerE := Bands(m, wider)
		if e != api.OK || innerE != api.OK || outerE != api.OK {
			t.Fatalf("%v, %v: errors %d, %d, %d", m, l, e, innerE, outerE)
		}
		for i, a := range results {
			if has, e := band.Has(inner[i], a); !has || e != api.OK {
				t.Fatalf("Bands(%v, %v): %v, which does not contain %v", m, around, inner[i], a)
			}
			if outer[i].Lo > inner[i].Lo || outer[i].Hi < inner[i].Hi {
				t.Fatalf("%v: %v is not in %v", m, inner[i], outer[i])
			}
		}
	}
}

// No function writes to its arguments, or to the unused capacity of one (R3).
func TestArgumentsStay(t *testing.T) {
	r := rand.New(rand.NewSource(57))
	for range 200 {
		n := 1 + r.Intn(api.MaxRows)
		memory, l, bands := drawnMat(r, n+1, n+1, 3), drawnFracs(r, n+1, 3), slices.Repeat([]api.Band{bd(-3, 5)}, n+1)
		memory[0][0] = fr("0") // so that rows are exchanged
		m := make(api.Mat, n, n+1)
		for i := range m {
			m[i] = memory[i][:n]
		}
		keep, _ := fromRats(toRats(memory))
		keepL, keepBands := slices.Clone(l), slices.Clone(bands)
		Check(m)
		Same(m, m)
		Diagonal(l[:n])
		Transpose(m)
		Mul(m, m)
		Det(m)
		Inverse(m)
		Apply(m, l[:n])
		Bands(m, bands[:n])
		for i, row := range m {
			if !slices.Equal(row, keep[i][:n]) {
				t.Fatalf("row %v has become %v", keep[i][:n], row)
			}
		}
		if !Same(memory, keep) || m[:n+1][n] != nil || !slices.Equal(l, keepL) || !slices.Equal(bands, keepBands) {
			t.Fatalf("%v, %v and %v have become %v, %v and %v", keep, keepL, keepBands, memory, l, bands)
		}
	}
}
