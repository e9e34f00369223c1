package mers89

import (
	"math/big"
	"math/rand/v2"
	"testing"

	"astragal/api"
)

var prime = new(big.Int).Sub(new(big.Int).Lsh(big.NewInt(1), 89), big.NewInt(1))

func word(r *rand.Rand) uint64 {
	edges := []uint64{0, 1, 2, 1<<25 - 2, 1<<25 - 1, 1 << 25, 1<<50 - 1, 1 << 50, 1<<63 - 1, 1<<64 - 2, 1<<64 - 1}
	if r.IntN(2) == 0 {
		return edges[r.IntN(len(edges))]
	}
	return r.Uint64() >> r.IntN(64)
}

func two(r *rand.Rand) api.U128 { return api.U128{Hi: word(r), Lo: word(r)} }

func big2(a api.U128) *big.Int {
	n := new(big.Int).SetUint64(a.Hi)
	return n.Add(n.Lsh(n, 64), new(big.Int).SetUint64(a.Lo))
}

func big4(a api.U256) *big.Int {
	n := big2(api.U128{Hi: a[3], Lo: a[2]})
	return n.Add(n.Lsh(n, 128), big2(api.U128{Hi: a[1], Lo: a[0]}))
}

func modulo(n *big.Int) *big.Int { return new(big.Int).Mod(n, prime) }

// P5.1
func TestFold(t *testing.T) {
	if big2(P()).Cmp(prime) != 0 {
		t.Fatal(P())
	}
	r := rand.New(rand.NewPCG(5, 1))
	for range 50000 {
		x := api.U256{word(r), word(r), word(r), word(r)}
		if got := Fold(x); big2(got).Cmp(modulo(big4(x))) != 0 {
			t.Fatal("Fold", x, got)
		}
		if a := two(r); Is(a) != (big2(a).Cmp(prime) < 0) {
			t.Fatal("Is", a)
		}
	}
	below := P()
	below.Lo--
	if Is(P()) || !Is(below) || Fold(api.U256{P().Lo, P().Hi}) != (api.U128{}) {
		t.Error("the prime itself")
	}
	if Fold(api.U256{0, 1 << 25}) != (api.U128{Lo: 1}) {
		t.Error("the chapter's example")
	}
	all := api.U256{1<<64 - 1, 1<<64 - 1, 1<<64 - 1, 1<<64 - 1}
	if big2(Fold(all)).Cmp(modulo(big4(all))) != 0 {
		t.Error("all bits")
	}
}

// P5.2
func TestArithmetic(t *testing.T) {
	r := rand.New(rand.NewPCG(5, 2))
	for range 3000 {
		a, b := two(r), two(r)
		x, y := big2(a), big2(b)
		if got := Add(a, b); big2(got).Cmp(modulo(new(big.Int).Add(x, y))) != 0 {
			t.Fatal("Add", a, b, got)
		}
		if got := Sub(a, b); big2(got).Cmp(modulo(new(big.Int).Sub(x, y))) != 0 {
			t.Fatal("Sub", a, b, got)
		}
		if got := Mul(a, b); big2(got).Cmp(modulo(new(big.Int).Mul(x, y))) != 0 {
			t.Fatal("Mul", a, b, got)
		}
		if got := Pow(a, b); big2(got).Cmp(new(big.Int).Exp(x, y, prime)) != 0 {
			t.Fatal("Pow", a, b, got)
		}
		if got := Text(a); got != modulo(x).String() {
			t.Fatal("Text", a, got)
		}
		inverse, ok := Inv(a)
		if modulo(x).Sign() == 0 {
			if ok || inverse != (api.U128{}) {
				t.Fatal("an inverse of 0", a)
			}
		} else if !ok || !Is(inverse) || Mul(a, inverse) != (api.U128{Lo: 1}) {
			t.Fatal("Inv", a, inverse, ok)
		}
	}
	if x, ok := Inv(api.U128{Lo: 2}); x != (api.U128{Hi: 1 << 24}) || !ok {
		t.Error("the chapter's example", x, ok)
	}
}

// P5.2
func TestPowersAtTheEdges(t *testing.T) {
	zero, one := api.U128{}, api.U128{Lo: 1}
	if Pow(zero, zero) != one || Pow(P(), zero) != one || Pow(zero, one) != zero {
		t.Error("powers of 0")
	}
	// The exponent doesn't count modulo the prime: a^P is a, not 1.
	if three := (api.U128{Lo: 3}); Pow(three, P()) != three {
		t.Error("the exponent P")
	}
	if Text(P()) != "0" || Text(zero) != "0" {
		t.Error("Text of 0")
	}
	for _, a := range []api.U128{zero, P(), {Hi: 1<<26 - 2 + 1, Lo: 1<<64 - 2}} {
		if _, ok := Inv(a); ok != (modulo(big2(a)).Sign() != 0) {
			t.Error("Inv", a, ok)
		}
	}
}

// P5.3
func TestField(t *testing.T) {
	r := rand.New(rand.NewPCG(5, 3))
	e := P()
	e.Lo--
	for range 2000 {
		a, b := two(r), two(r)
		zero := modulo(big2(a)).Sign() == 0 || modulo(big2(b)).Sign() == 0
		if (Mul(a, b) == api.U128{}) != zero {
			t.Fatal("a product", a, b)
		}
		want := api.U128{Lo: 1}
		if modulo(big2(a)).Sign() == 0 {
			want = api.U128{}
		}
		if Pow(a, e) != want {
			t.Fatal("Fermat", a)
		}
	}
}
