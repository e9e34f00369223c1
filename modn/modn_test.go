package modn

import (
	"math/big"
	"math/rand/v2"
	"testing"

	"astragal/api"
)

var edges = []uint64{0, 1, 2, 3, 4, 6, 10, 1<<32 - 1, 1 << 32, 1<<61 - 1, 1<<63 - 1, 1 << 63, 1<<63 + 1, 1<<64 - 59, 1<<64 - 2, 1<<64 - 1}

func word(r *rand.Rand) uint64 {
	if r.IntN(3) == 0 {
		return edges[r.IntN(len(edges))]
	}
	return r.Uint64() >> r.IntN(64)
}

func big1(n uint64) *big.Int { return new(big.Int).SetUint64(n) }

func big2(a api.U128) *big.Int {
	return new(big.Int).Add(new(big.Int).Lsh(big1(a.Hi), 64), big1(a.Lo))
}

// P3.1
func TestSumsProductsPowers(t *testing.T) {
	r := rand.New(rand.NewPCG(3, 1))
	for range 20000 {
		a, b, n := word(r), word(r), word(r)
		if n == 0 {
			continue
		}
		x, y, m := big1(a), big1(b), big1(n)
		for name, c := range map[string][2]uint64{
			"Add": {Add(a, b, n), new(big.Int).Mod(new(big.Int).Add(x, y), m).Uint64()},
			"Sub": {Sub(a, b, n), new(big.Int).Mod(new(big.Int).Sub(x, y), m).Uint64()},
			"Mul": {Mul(a, b, n), new(big.Int).Mod(new(big.Int).Mul(x, y), m).Uint64()},
			"Pow": {Pow(a, b, n), new(big.Int).Exp(x, y, m).Uint64()},
		} {
			if c[0] != c[1] {
				t.Fatal(name, a, b, n, c)
			}
		}
	}
}

// P3.1
func TestModuliZeroAndOne(t *testing.T) {
	for _, a := range edges {
		for _, b := range edges {
			for n := range uint64(2) {
				if Add(a, b, n) != 0 || Sub(a, b, n) != 0 || Mul(a, b, n) != 0 || Pow(a, b, n) != 0 {
					t.Fatal(a, b, n)
				}
			}
		}
	}
	if Pow(0, 0, 7) != 1 || Pow(0, 1, 7) != 0 || Pow(5, 0, 2) != 1 {
		t.Error("powers of 0, and to the 0")
	}
}

// P3.2, P3.4
func TestGcdAndInverse(t *testing.T) {
	r := rand.New(rand.NewPCG(3, 2))
	for range 20000 {
		a, n := word(r), word(r)
		gcd := new(big.Int).GCD(nil, nil, big1(a), big1(n)).Uint64()
		if Gcd(a, n) != gcd || Gcd(n, a) != gcd {
			t.Fatal("Gcd", a, n, Gcd(a, n), gcd)
		}
		x, ok := Inv(a, n)
		switch {
		case n == 0 || gcd != 1:
			if ok || x != 0 {
				t.Fatal("an inverse that there is not", a, n, x)
			}
		case !ok || x >= n || Mul(a, x, n) != 1%n:
			t.Fatal("Inv", a, n, x, ok)
		}
	}
	for n := range uint64(40) {
		for a := range uint64(90) {
			x, ok := Inv(a, n)
			found := 0
			for y := range n {
				if a*y%n == 1%n {
					found++
					if y != x {
						t.Error("another inverse", a, n, x, y)
					}
				}
			}
			if ok != (found == 1) || ok != (n > 0 && Gcd(a, n) == 1) || found > 1 {
				t.Error(a, n, x, ok, found)
			}
		}
	}
	if x, ok := Inv(3, 10); x != 7 || !ok {
		t.Error("the chapter's example", x, ok)
	}
	if _, ok := Inv(2, 10); ok {
		t.Error("the chapter's example")
	}
	if x, ok := Inv(5, 1); x != 0 || !ok {
		t.Error("modulo 1", x, ok)
	}
	if Gcd(0, 0) != 0 || Gcd(0, 5) != 5 || Gcd(5, 0) != 5 {
		t.Error("divisors of 0")
	}
}

// P3.3, P3.4
func TestOdd(t *testing.T) {
	r := rand.New(rand.NewPCG(3, 3))
	all := new(big.Int).Lsh(big.NewInt(1), 128)
	for range 5000 {
		a, b := word(r), api.U128{Hi: word(r), Lo: word(r)}
		x, ok := Odd(a)
		if ok != (a%2 == 1) || ok && a*x != 1 || !ok && x != 0 {
			t.Fatal("Odd", a, x, ok)
		}
		if y, _ := Odd(x); ok && y != a {
			t.Fatal("the inverse of the inverse", a, x, y)
		}
		z, ok := Odd2(b)
		product := new(big.Int).Mod(new(big.Int).Mul(big2(b), big2(z)), all)
		if ok != (b.Lo%2 == 1) || ok && product.Cmp(big.NewInt(1)) != 0 || !ok && z != (api.U128{}) {
			t.Fatal("Odd2", b, z, ok)
		}
		if y, _ := Odd2(z); ok && y != b {
			t.Fatal("the inverse of the inverse", b, z, y)
		}
	}
	if x, ok := Odd(3); x != 0xaaaaaaaaaaaaaaab || !ok {
		t.Error("the chapter's example")
	}
}

// P3.3
func TestLeft(t *testing.T) {
	r := rand.New(rand.NewPCG(3, 4))
	if x, n := Left(0); x != 0 || n != 64 {
		t.Error("0", x, n)
	}
	for range 1000 {
		odd, n := r.Uint64()|1, r.IntN(64)
		odd >>= n
		odd |= 1
		if x, k := Left(odd << n); x != odd || k != n {
			t.Fatal(odd, n, x, k)
		}
	}
}
