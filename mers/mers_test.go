package mers

import (
	"math"
	"math/big"
	"math/rand/v2"
	"testing"

	"astragal/api"
)

var kinds = []int{31, 61}

func word(r *rand.Rand) uint64 {
	edges := []uint64{0, 1, 2, 1<<31 - 2, 1<<31 - 1, 1 << 31, 1<<61 - 2, 1<<61 - 1, 1 << 61, 1<<62 - 2, 1<<63 - 1, 1<<64 - 1, 7 * (1<<61 - 1)}
	if r.IntN(3) == 0 {
		return edges[r.IntN(len(edges))]
	}
	return r.Uint64() >> r.IntN(64)
}

func big1(n uint64) *big.Int { return new(big.Int).SetUint64(n) }

// P4.1
func TestFold(t *testing.T) {
	if P(31) != 1<<31-1 || P(61) != 1<<61-1 {
		t.Fatal("the primes", P(31), P(61))
	}
	r := rand.New(rand.NewPCG(4, 1))
	for range 20000 {
		for _, k := range kinds {
			x := api.U128{Hi: word(r), Lo: word(r)}
			n := new(big.Int).Add(new(big.Int).Lsh(big1(x.Hi), 64), big1(x.Lo))
			if got := Fold(k, x); got != n.Mod(n, big1(P(k))).Uint64() {
				t.Fatal("Fold", k, x, got)
			}
			if a := word(r); Is(k, a) != (a < P(k)) {
				t.Fatal("Is", k, a)
			}
		}
	}
	for _, k := range kinds {
		if Is(k, P(k)) || !Is(k, P(k)-1) || !Is(k, 0) || Fold(k, api.U128{Lo: P(k)}) != 0 {
			t.Error("the prime itself", k)
		}
		if got := Fold(k, api.U128{Hi: 1<<64 - 1, Lo: 1<<64 - 1}); got >= P(k) {
			t.Error("all bits", k, got)
		}
	}
	if Fold(31, api.U128{Lo: 1 << 31}) != 1 {
		t.Error("the chapter's example")
	}
}

// P4.1
func TestOtherParameters(t *testing.T) {
	for _, k := range []int{0, 1, 30, 32, 60, 62, 64, 89, -31, math.MinInt, math.MaxInt} {
		if P(k) != 0 || Is(k, 0) || Fold(k, api.U128{Hi: 3, Lo: 5}) != 0 || Add(k, 1, 2) != 0 || Sub(k, 5, 2) != 0 || Mul(k, 2, 3) != 0 || Pow(k, 2, 3) != 0 || Pow(k, 2, 0) != 0 {
			t.Error(k)
		}
		if x, ok := Inv(k, 2); x != 0 || ok {
			t.Error("Inv", k, x, ok)
		}
	}
}

// P4.2
func TestArithmetic(t *testing.T) {
	r := rand.New(rand.NewPCG(4, 2))
	for range 5000 {
		for _, k := range kinds {
			a, b := word(r), word(r)
			x, y, p := big1(a), big1(b), big1(P(k))
			if got := Add(k, a, b); got != new(big.Int).Mod(new(big.Int).Add(x, y), p).Uint64() {
				t.Fatal("Add", k, a, b, got)
			}
			if got := Sub(k, a, b); got != new(big.Int).Mod(new(big.Int).Sub(x, y), p).Uint64() {
				t.Fatal("Sub", k, a, b, got)
			}
			if got := Mul(k, a, b); got != new(big.Int).Mod(new(big.Int).Mul(x, y), p).Uint64() {
				t.Fatal("Mul", k, a, b, got)
			}
			if got := Pow(k, a, b); got != new(big.Int).Exp(x, y, p).Uint64() {
				t.Fatal("Pow", k, a, b, got)
			}
			inverse, ok := Inv(k, a)
			if a%P(k) == 0 {
				if ok || inverse != 0 {
					t.Fatal("an inverse of 0", k, a)
				}
			} else if !ok || inverse >= P(k) || Mul(k, a, inverse) != 1 {
				t.Fatal("Inv", k, a, inverse, ok)
			}
		}
	}
	if x, ok := Inv(61, 2); x != 1<<60 || !ok {
		t.Error("the chapter's example", x, ok)
	}
	for _, k := range kinds {
		if Pow(k, 0, 0) != 1 || Pow(k, P(k), 0) != 1 || Pow(k, 0, 5) != 0 || Pow(k, 3, P(k)) != 3 {
			t.Error("powers at the edges", k)
		}
	}
}

// P4.3
func TestField(t *testing.T) {
	r := rand.New(rand.NewPCG(4, 3))
	for range 3000 {
		for _, k := range kinds {
			a, b := word(r), word(r)
			if a%P(k) != 0 && b%P(k) != 0 && Mul(k, a, b) == 0 {
				t.Fatal("a product is 0", k, a, b)
			}
			want := uint64(1)
			if a%P(k) == 0 {
				want = 0
			}
			if Pow(k, a, P(k)-1) != want {
				t.Fatal("Fermat", k, a)
			}
		}
	}
}
