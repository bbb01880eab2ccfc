package number

import (
	"math"
	"math/big"
	"math/rand"
	"slices"
	"strings"
	"testing"
)

// sample returns a magnitude of that many words, many of which have all bits or none, as these lead to carries and to quotients that are guessed too great.
func sample(r *rand.Rand, words int) Magnitude {
	m := make(Magnitude, words)
	for i := range m {
		switch r.Intn(4) {
		case 0:
			m[i] = 0
		case 1:
			m[i] = 1<<64 - 1
		case 2:
			m[i] = 1 << r.Intn(64)
		default:
			m[i] = r.Uint64()
		}
	}
	return m.trim()
}

func toBig(m Magnitude) *big.Int {
	b := new(big.Int)
	for i := len(m) - 1; i >= 0; i-- {
		b.Lsh(b, wordBits)
		b.Or(b, new(big.Int).SetUint64(m[i]))
	}
	return b
}

func expect(t *testing.T, name string, got Magnitude, want *big.Int) {
	t.Helper()
	if toBig(got).Cmp(want) != 0 {
		t.Fatalf("%s: got %v, want %v", name, toBig(got), want)
	}
	if len(got) > 0 && got[len(got)-1] == 0 {
		t.Fatalf("%s: highest word of %v is 0", name, []uint64(got))
	}
}

func TestArithmetic(t *testing.T) {
	r := rand.New(rand.NewSource(1))
	for range 20000 {
		a, b := sample(r, r.Intn(9)), sample(r, r.Intn(9))
		x, y := toBig(a), toBig(b)
		keepA, keepB := slices.Clone(a), slices.Clone(b)
		expect(t, "Sum", a.Sum(b), new(big.Int).Add(x, y))
		expect(t, "Product", a.Product(b), new(big.Int).Mul(x, y))
		expect(t, "Common", a.Common(b), new(big.Int).GCD(nil, nil, x, y))
		if a.Compare(b) != x.Cmp(y) {
			t.Fatalf("Compare of %v and %v: %d", x, y, a.Compare(b))
		}
		if x.Cmp(y) >= 0 {
			expect(t, "Difference", a.Difference(b), new(big.Int).Sub(x, y))
		}
		if !b.IsZero() {
			q, rest := a.Divide(b)
			wantQ, wantRest := new(big.Int).QuoRem(x, y, new(big.Int))
			expect(t, "Divide, quotient", q, wantQ)
			expect(t, "Divide, rest", rest, wantRest)
		}
		if !slices.Equal(a, keepA) || !slices.Equal(b, keepB) {
			t.Fatalf("arguments changed")
		}
	}
}

// A guess of the quotient from the leading words is too great by 1 or by 2 for these.
func TestGuessTooGreat(t *testing.T) {
	const top, all = uint64(1) << 63, 1<<64 - 1
	for _, x := range []struct{ a, b Magnitude }{
		{Magnitude{0, 0, top}, Magnitude{all, top}},
		{Magnitude{0, 0, top, top - 1}, Magnitude{all, all, top}},
		{Magnitude{0, all, top - 1}, Magnitude{all, top}},
		{Magnitude{3, 0, top}, Magnitude{1, 0, 1 << 61}},
		{Magnitude{0, all - 1, top}, Magnitude{all, top}},
	} {
		q, rest := x.a.Divide(x.b)
		wantQ, wantRest := new(big.Int).QuoRem(toBig(x.a), toBig(x.b), new(big.Int))
		expect(t, "quotient", q, wantQ)
		expect(t, "rest", rest, wantRest)
	}
}

func TestCommonOfProducts(t *testing.T) {
	r := rand.New(rand.NewSource(2))
	for range 500 {
		c := sample(r, 1+r.Intn(12))
		a, b := sample(r, 1+r.Intn(12)).Product(c), sample(r, 1+r.Intn(12)).Product(c)
		expect(t, "Common", a.Common(b), new(big.Int).GCD(nil, nil, toBig(a), toBig(b)))
	}
	a, b := fromWord(1), fromWord(1)
	for range 3000 { // neighbours in the sequence of Fibonacci take the most steps
		a, b = b, a.Sum(b)
	}
	expect(t, "Common", a.Product(b).Common(b.Product(b)), toBig(b))
}

func TestPowerAndRoot(t *testing.T) {
	r := rand.New(rand.NewSource(3))
	one := fromWord(1)
	for range 300 {
		a, k := sample(r, r.Intn(4)), 1+r.Intn(12)
		power := a.Power(k)
		expect(t, "Power", power, new(big.Int).Exp(toBig(a), big.NewInt(int64(k)), nil))
		expect(t, "Root of power", power.Root(k), toBig(a))
		if !a.IsZero() {
			expect(t, "Root below power", power.Difference(one).Root(k), toBig(a.Difference(one)))
			expect(t, "Root above power", power.Sum(one).Root(k), toBig(rootAbove(a, power, k)))
		}
	}
	expect(t, "Power 0", Magnitude{}.Power(0), big.NewInt(1))
}

// rootAbove is the root of the number above the k-th power of a.
func rootAbove(a, power Magnitude, k int) Magnitude {
	if k == 1 {
		return power.Sum(fromWord(1))
	}
	return a
}

func TestText(t *testing.T) {
	r := rand.New(rand.NewSource(4))
	for range 3000 {
		a := sample(r, r.Intn(40))
		want := toBig(a).String()
		text, ok := a.Decimal(len(want))
		if text != want || !ok {
			t.Fatalf("Decimal of %s: %s, %v", want, text, ok)
		}
		if text, ok := a.Decimal(len(want) - 1); text != "" || ok {
			t.Fatalf("Decimal of %s with a digit less: %s, %v", want, text, ok)
		}
		s, ok := Read("-"+want, len(want))
		if a.IsZero() {
			if ok {
				t.Fatalf("Read of -0: %v", s)
			}
			continue
		}
		if !ok || !s.Below || !slices.Equal(s.Magnitude, a) {
			t.Fatalf("Read of -%s: %v, %v", want, s, ok)
		}
		if s, ok := Read("-"+want, len(want)-1); ok || s.Magnitude != nil || s.Below {
			t.Fatalf("Read of -%s with a digit less: %v, %v", want, s, ok)
		}
	}
	for _, text := range []string{"", "-", "+1", "00", "01", "-0", "-01", "--1", "1-", " 1", "1 ", "1_0", "1.0", "0x1", "\x00", "٣", "1" + strings.Repeat("0", 18) + ":", strings.Repeat("1", 19) + "/" + strings.Repeat("1", 19)} {
		if s, ok := Read(text, 100); ok || s.Magnitude != nil || s.Below {
			t.Errorf("Read(%q): %v, %v", text, s, ok)
		}
	}
}

func TestInt(t *testing.T) {
	const most = 1000000000000000000
	for _, x := range []struct {
		m       Magnitude
		most, n int
		ok      bool
	}{
		{nil, 0, 0, true}, {nil, most, 0, true}, {Magnitude{1}, 0, 0, false}, {Magnitude{5}, 5, 5, true}, {Magnitude{6}, 5, 0, false},
		{Magnitude{most}, most, most, true}, {Magnitude{most + 1}, most, 0, false}, {Magnitude{math.MaxInt}, math.MaxInt, math.MaxInt, true},
		{Magnitude{1 << 63}, math.MaxInt, 0, false}, {Magnitude{1<<64 - 1}, math.MaxInt, 0, false}, {Magnitude{0, 1}, math.MaxInt, 0, false}, {Magnitude{5, 1}, 5, 0, false},
	} {
		if n, ok := x.m.Int(x.most); n != x.n || ok != x.ok {
			t.Errorf("Int of %v, at most %d: %d, %v", x.m, x.most, n, ok)
		}
	}
}

func TestLength(t *testing.T) {
	for _, x := range []struct {
		m    Magnitude
		want int
	}{{nil, 0}, {Magnitude{1}, 1}, {Magnitude{1<<64 - 1}, 64}, {Magnitude{0, 1}, 65}, {Magnitude{0, 1 << 63}, 128}} {
		if n := x.m.length(); n != x.want {
			t.Errorf("length of %v: %d", x.m, n)
		}
	}
}
