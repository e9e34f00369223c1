package gf2

import (
	"math"
	"math/rand/v2"
	"slices"
	"testing"

	"astragal/api"
	"astragal/wide"
)

// list returns up to n random words, often sparse, often with zeros at the end.
func list(r *rand.Rand, n int) []uint64 {
	a := make([]uint64, r.IntN(n+1))
	for i := range a {
		switch r.IntN(4) {
		case 0:
		case 1:
			a[i] = 1 << r.IntN(64)
		default:
			a[i] = r.Uint64() >> r.IntN(64)
		}
	}
	return a
}

// bitsOf returns the coefficients, the plainest form.
func bitsOf(a []uint64) []bool {
	var out []bool
	for _, w := range a {
		for i := range 64 {
			out = append(out, w>>i&1 == 1)
		}
	}
	return trimmed(out)
}

func trimmed(b []bool) []bool {
	for len(b) > 0 && !b[len(b)-1] {
		b = b[:len(b)-1]
	}
	return b
}

func product(a, b []bool) []bool {
	out := make([]bool, len(a)+len(b))
	for i, x := range a {
		for j, y := range b {
			out[i+j] = out[i+j] != (x && y)
		}
	}
	return trimmed(out)
}

func remainder(a, m []bool) []bool {
	a = trimmed(slices.Clone(a))
	for len(a) >= len(m) {
		shift := len(a) - len(m)
		for i, x := range m {
			a[shift+i] = a[shift+i] != x
		}
		a = trimmed(a)
	}
	return a
}

func isTrimmed(a []uint64) bool { return len(a) == 0 || a[len(a)-1] != 0 }

// P6.1
func TestClmul(t *testing.T) {
	r := rand.New(rand.NewPCG(6, 1))
	for range 3000 {
		a, b := r.Uint64()>>r.IntN(65), r.Uint64()>>r.IntN(65)
		p := Clmul(a, b)
		if !slices.Equal(bitsOf([]uint64{p.Lo, p.Hi}), product(bitsOf([]uint64{a}), bitsOf([]uint64{b}))) {
			t.Fatal(a, b, p)
		}
	}
	if Clmul(3, 3) != (api.U128{Lo: 5}) || Clmul(1<<63, 1<<63) != (api.U128{Hi: 1 << 62}) {
		t.Error("examples")
	}
}

// P6.1
func TestTrimDegCoef(t *testing.T) {
	r := rand.New(rand.NewPCG(6, 2))
	for range 500 {
		a := list(r, 5)
		plain := bitsOf(a)
		if Deg(a) != len(plain)-1 {
			t.Fatal("Deg", a, Deg(a))
		}
		if got := Trim(a); !isTrimmed(got) || !slices.Equal(bitsOf(got), plain) {
			t.Fatal("Trim", a, got)
		}
		for n := -70; n < 400; n++ {
			if Coef(a, n) != (n >= 0 && n < len(plain) && plain[n]) {
				t.Fatal("Coef", a, n)
			}
		}
	}
	if Coef([]uint64{1}, math.MinInt) || Coef([]uint64{1}, math.MaxInt) || Coef(nil, 0) {
		t.Error("a coefficient that there is not")
	}
	if Deg(nil) != -1 || Deg([]uint64{0, 0}) != -1 || len(Trim([]uint64{0, 0})) != 0 || Deg([]uint64{1}) != 0 {
		t.Error("the polynomial 0")
	}
	if Coef([]uint64{0, 5}[:1], 64) {
		t.Error("what lies behind the list was read")
	}
}

// P6.2
func TestAddMulModDivGcd(t *testing.T) {
	r := rand.New(rand.NewPCG(6, 3))
	for range 1500 {
		a, b := list(r, 5), list(r, 4)
		sum := Add(a, b)
		if !isTrimmed(sum) || !slices.Equal(sum, Add(b, a)) {
			t.Fatal("Add", a, b, sum)
		}
		for n := range 330 {
			if Coef(sum, n) != (Coef(a, n) != Coef(b, n)) {
				t.Fatal("Add", a, b, n)
			}
		}
		p := Mul(a, b)
		if !isTrimmed(p) || !slices.Equal(bitsOf(p), product(bitsOf(a), bitsOf(b))) {
			t.Fatal("Mul", a, b, p)
		}
		rest, ok := Mod(a, b)
		quotient, ok2 := Div(a, b)
		if Deg(b) < 0 {
			if ok || ok2 || rest != nil || quotient != nil {
				t.Fatal("division by 0", a, b)
			}
			continue
		}
		if !ok || !isTrimmed(rest) || !slices.Equal(bitsOf(rest), remainder(bitsOf(a), bitsOf(b))) {
			t.Fatal("Mod", a, b, rest)
		}
		if !ok2 || !isTrimmed(quotient) {
			t.Fatal("Div", a, b, quotient)
		}
	}
	if rest, ok := Mod([]uint64{4}, []uint64{3}); !ok || !slices.Equal(rest, []uint64{1}) {
		t.Error("the chapter's example", rest, ok)
	}
}

// P6.2
func TestGcd(t *testing.T) {
	r := rand.New(rand.NewPCG(6, 4))
	for range 500 {
		a, b, c := list(r, 3), list(r, 3), list(r, 2)
		g := Gcd(Mul(a, c), Mul(b, c))
		// The divisor is c times the divisor of a and b: it divides both, and c divides it.
		if !slices.Equal(g, Mul(c, Gcd(a, b))) || !isTrimmed(g) {
			t.Fatal("Gcd", a, b, c, g)
		}
		if Deg(g) >= 0 {
			for _, x := range [][]uint64{a, b} {
				if rest, _ := Mod(Mul(x, c), g); len(rest) != 0 {
					t.Fatal("does not divide", a, b, c, g)
				}
			}
		}
	}
	if len(Gcd(nil, []uint64{0})) != 0 || !slices.Equal(Gcd(nil, []uint64{6, 0}), []uint64{6}) || !slices.Equal(Gcd([]uint64{6, 0}, nil), []uint64{6}) {
		t.Error("divisors of 0")
	}
	// x^2 + 1 is (x + 1)^2, and x^2 + x is x * (x + 1).
	if !slices.Equal(Gcd([]uint64{5}, []uint64{6}), []uint64{3}) {
		t.Error("x + 1")
	}
}

// P6.3
func TestPowers(t *testing.T) {
	r := rand.New(rand.NewPCG(6, 5))
	for range 300 {
		a, b, m := list(r, 3), list(r, 3), list(r, 3)
		p, ok := MulMod(a, b, m)
		want, wantOK := Mod(Mul(a, b), m)
		if ok != wantOK || !slices.Equal(p, want) {
			t.Fatal("MulMod", a, b, m, p, ok)
		}
		n := r.IntN(500)
		power, ok := PowX(wide.Of4(uint64(n)), m)
		monomial := make([]uint64, 8)
		monomial[n/64] = 1 << (n % 64)
		want, wantOK = Mod(monomial, m)
		if ok != wantOK || !slices.Equal(power, want) {
			t.Fatal("PowX", n, m, power, ok)
		}
	}
	for _, zero := range [][]uint64{nil, {0}, {0, 0}} {
		if p, ok := PowX(wide.Of4(5), zero); p != nil || ok {
			t.Error("modulo 0", p)
		}
		if p, ok := PowX(api.U256{}, zero); p != nil || ok {
			t.Error("modulo 0, to the 0", p)
		}
		if p, ok := MulMod([]uint64{1}, []uint64{1}, zero); p != nil || ok {
			t.Error("modulo 0", p)
		}
	}
	if p, ok := PowX(api.U256{}, []uint64{1}); len(p) != 0 || !ok {
		t.Error("modulo 1", p)
	}
	if p, ok := PowX(api.U256{}, []uint64{2}); !slices.Equal(p, []uint64{1}) || !ok {
		t.Error("x^0", p)
	}
}

// P6.4
func TestConsequences(t *testing.T) {
	r := rand.New(rand.NewPCG(6, 6))
	for range 300 {
		a, m := list(r, 6), list(r, 4)
		quotient, ok := Div(a, m)
		rest, _ := Mod(a, m)
		if !ok {
			continue
		}
		if !slices.Equal(Add(Mul(quotient, m), rest), Trim(a)) || Deg(rest) >= Deg(m) {
			t.Fatal("division", a, m, quotient, rest)
		}
		x := api.U256{r.Uint64(), r.Uint64(), r.Uint64(), r.Uint64() >> 1}
		y := api.U256{r.Uint64(), r.Uint64(), r.Uint64(), r.Uint64() >> 1}
		sum, _ := wide.Add4(x, y)
		px, _ := PowX(x, m)
		py, _ := PowX(y, m)
		both, _ := MulMod(px, py, m)
		if p, _ := PowX(sum, m); !slices.Equal(p, both) {
			t.Fatal("powers add up", x, y, m)
		}
	}
}

// P6.1 to P6.3 with P2
func TestArgumentsRemain(t *testing.T) {
	a, m := []uint64{5, 6, 7, 0, 9}, []uint64{3, 1, 9}
	b, n := a[:4], m[:2]
	for _, out := range [][]uint64{Trim(b), Add(b, nil), Add(nil, b), Gcd(b, nil), Gcd(nil, b), Mul(b, n)} {
		for i := range out {
			out[i] = 77
		}
		_ = append(out, 77)
	}
	rest, _ := Mod(n, b)
	rest[0] = 77
	Mod(b, n)
	Div(b, n)
	if !slices.Equal(a, []uint64{5, 6, 7, 0, 9}) || !slices.Equal(m, []uint64{3, 1, 9}) {
		t.Error("an argument was changed", a, m)
	}
}
