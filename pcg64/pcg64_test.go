package pcg64

import (
	"math/big"
	"math/rand/v2"
	"testing"

	"astragal/api"
	"astragal/wide"
)

var modulus = new(big.Int).Lsh(big.NewInt(1), 128)

func two(r *rand.Rand) api.U128 {
	return api.U128{Hi: r.Uint64() >> r.IntN(65), Lo: r.Uint64() >> r.IntN(65)}
}

func big2(a api.U128) *big.Int {
	n := new(big.Int).SetUint64(a.Hi)
	return n.Add(n.Lsh(n, 64), new(big.Int).SetUint64(a.Lo))
}

// P14.1: published words for the seed 42, 54.
func TestPublishedWords(t *testing.T) {
	s, inc := Seed(api.U128{Lo: 42}, api.U128{Lo: 54})
	for i, want := range []uint64{0x86b1da1d72062b68, 0x1304aa46c9853d39, 0xa3670e9e0dd50358, 0xf9090e529a7dae00, 0xc85b9fd837996f2c, 0x606121f8e3919196} {
		var got uint64
		if got, s = Next(s, inc); got != want {
			t.Errorf("%d %x", i, got)
		}
	}
	if Out(api.U128{Lo: 7}) != 7 {
		t.Error("the chapter's example")
	}
}

// P14.1
func TestStepBackOutSeed(t *testing.T) {
	times, _ := new(big.Int).SetString("2360ed051fc65da44385df649fccf645", 16)
	if big2(Times()).Cmp(times) != 0 {
		t.Fatal(Times())
	}
	r := rand.New(rand.NewPCG(14, 1))
	step := func(s, inc *big.Int) *big.Int {
		odd := new(big.Int).SetBit(inc, 0, 1)
		n := new(big.Int).Mul(s, times)
		return n.Mod(n.Add(n, odd), modulus)
	}
	for range 3000 {
		s, inc := two(r), two(r)
		if got := Step(s, inc); big2(got).Cmp(step(big2(s), big2(inc))) != 0 {
			t.Fatal("Step", s, inc, got)
		}
		if Back(Step(s, inc), inc) != s || Step(Back(s, inc), inc) != s {
			t.Fatal("Back", s, inc)
		}
		x, want := s.Hi^s.Lo, s.Hi^s.Lo
		for range s.Hi >> 58 {
			want = want>>1 | want<<63
		}
		if Out(s) != want {
			t.Fatal("Out", s, x)
		}
		if out, next := Next(s, inc); next != Step(s, inc) || out != Out(next) {
			t.Fatal("Next", s, inc)
		}
		first, stream := two(r), two(r)
		state, increment := Seed(first, stream)
		double := new(big.Int).Add(new(big.Int).Lsh(big2(stream), 1), big.NewInt(1))
		if big2(increment).Cmp(double.Mod(double, modulus)) != 0 {
			t.Fatal("the increment", stream, increment)
		}
		sum := new(big.Int).Add(step(new(big.Int), double), big2(first))
		if big2(state).Cmp(step(sum, double)) != 0 {
			t.Fatal("Seed", first, stream, state)
		}
	}
}

// P14.2
func TestAdvance(t *testing.T) {
	r := rand.New(rand.NewPCG(14, 2))
	for range 10 {
		s, inc := two(r), two(r)
		at := s
		for n := range uint64(200) {
			count := api.U128{Lo: n}
			if Advance(s, inc, count) != at || Steps(s, at, inc) != count {
				t.Fatal(s, inc, n)
			}
			at = Step(at, inc)
		}
		all := api.U128{Hi: 1<<64 - 1, Lo: 1<<64 - 1}
		if Advance(s, inc, all) != Back(s, inc) || Steps(s, Back(s, inc), inc) != all {
			t.Fatal("one step back", s, inc)
		}
		even := inc
		even.Lo &^= 1
		if Advance(s, even, api.U128{Lo: 99}) != Advance(s, inc, api.U128{Lo: 99}) && inc.Lo&1 == 0 {
			t.Fatal("the lowest bit of inc", s, inc)
		}
		odd := even
		odd.Lo |= 1
		if Advance(s, even, all) != Advance(s, odd, all) || Steps(s, at, even) != Steps(s, at, odd) || Step(s, even) != Step(s, odd) || Back(s, even) != Back(s, odd) {
			t.Fatal("the lowest bit of inc", s, inc)
		}
	}
}

// P14.3
func TestFullPeriod(t *testing.T) {
	r := rand.New(rand.NewPCG(14, 3))
	for range 500 {
		s, u, inc, n, m := two(r), two(r), two(r), two(r), two(r)
		if Advance(s, inc, Steps(s, u, inc)) != u {
			t.Fatal("not reached", s, u, inc)
		}
		if Steps(s, Advance(s, inc, n), inc) != n {
			t.Fatal("another number of steps", s, inc, n)
		}
		sum, _ := wide.Add(n, m)
		if Advance(Advance(s, inc, n), inc, m) != Advance(s, inc, sum) {
			t.Fatal("steps add up", s, inc, n, m)
		}
	}
}
