package xoroshiro

import (
	"math"
	"math/rand/v2"
	"testing"

	"astragal/api"
	"astragal/split"
)

var kinds = []int{api.XoroSS, api.XoroPP}

func random(r *rand.Rand) [2]uint64 {
	return [2]uint64{r.Uint64() >> r.IntN(64), r.Uint64() << r.IntN(64)}
}

// P10.1, P10.2: published words for the state 1, 2.
func TestPublishedWords(t *testing.T) {
	for k, words := range map[int][]uint64{
		api.XoroSS: {5760, 97769243520, 9706862127477703552, 9223447511460779954, 8358291023205304566, 15695619998649302768, 8517900938696309774, 16586480348202605369, 6959129367028440372, 16822147227405758281},
		api.XoroPP: {393217, 669327710093319, 1732421326133921491, 11394790081659126983, 9555452776773192676, 3586421180005889563, 1691397964866707553, 10735626796753111697, 15216282715349408991, 14247243556711267923},
	} {
		s := [2]uint64{1, 2}
		for i, want := range words {
			if got := Out(k, s); got != want {
				t.Error(k, i, got, want)
			}
			s = Step(k, s)
		}
	}
	if Out(api.XoroSS, [2]uint64{1, 0}) != 5760 {
		t.Error("the chapter's example")
	}
}

// P10.1
func TestStepWrittenOut(t *testing.T) {
	r := rand.New(rand.NewPCG(10, 1))
	rotate := func(x uint64, n int) uint64 { return x<<n | x>>(64-n) }
	for range 2000 {
		s := random(r)
		x := s[0] ^ s[1]
		if Step(api.XoroSS, s) != [2]uint64{rotate(s[0], 24) ^ x ^ x<<16, rotate(x, 37)} {
			t.Fatal("**", s)
		}
		if Step(api.XoroPP, s) != [2]uint64{rotate(s[0], 49) ^ x ^ x<<21, rotate(x, 28)} {
			t.Fatal("++", s)
		}
		if Out(api.XoroSS, s) != rotate(s[0]*5, 7)*9 || Out(api.XoroPP, s) != rotate(s[0]+s[1], 17)+s[0] {
			t.Fatal("Out", s)
		}
	}
}

// P10.1
func TestBackAndRun(t *testing.T) {
	r := rand.New(rand.NewPCG(10, 2))
	for _, k := range kinds {
		s := random(r)
		at := s
		for n := range 4097 {
			if Back(k, Step(k, at)) != at || Step(k, Back(k, at)) != at {
				t.Fatal(k, at)
			}
			if n%64 < 2 && (Run(k, s, n) != at || Run(k, at, -n) != s) {
				t.Fatal("Run", k, n)
			}
			at = Step(k, at)
		}
		most := Run(k, s, 4096)
		least := Run(k, s, -4096)
		for _, n := range []int{4097, 5000, math.MaxInt} {
			if Run(k, s, n) != most || Run(k, s, -n) != least {
				t.Error("at most 4,096", k, n)
			}
		}
		if Run(k, s, math.MinInt) != least {
			t.Error("the least int", k)
		}
	}
}

// P10.1
func TestOtherParameters(t *testing.T) {
	s := [2]uint64{5, 6}
	for _, k := range []int{0, -1, api.Split, api.XoshP, api.Pcg32, math.MinInt, math.MaxInt} {
		if Step(k, s) != s || Back(k, s) != s || Run(k, s, 9) != s || Run(k, s, -9) != s || Out(k, s) != 0 {
			t.Error(k)
		}
	}
}

// P10.2
func TestXorZeroSeed(t *testing.T) {
	r := rand.New(rand.NewPCG(10, 3))
	for range 500 {
		s, u, n := random(r), random(r), r.Uint64()
		if Xor(s, u) != [2]uint64{s[0] ^ u[0], s[1] ^ u[1]} {
			t.Fatal("Xor", s, u)
		}
		if Seed(n) != [2]uint64(split.Words(n, 2)) {
			t.Fatal("Seed", n)
		}
	}
	if !Zero([2]uint64{}) || Zero([2]uint64{0, 1}) || Zero([2]uint64{1 << 63, 0}) {
		t.Error("Zero")
	}
}

// P10.3
func TestLinear(t *testing.T) {
	r := rand.New(rand.NewPCG(10, 4))
	for _, k := range kinds {
		for range 2000 {
			s, u := random(r), random(r)
			if Step(k, Xor(s, u)) != Xor(Step(k, s), Step(k, u)) {
				t.Fatal(k, s, u)
			}
			if !Zero(s) && (Zero(Step(k, s)) || Zero(Back(k, s))) {
				t.Fatal("leads to zeros", k, s)
			}
		}
		if !Zero(Step(k, [2]uint64{})) || !Zero(Back(k, [2]uint64{})) {
			t.Error("zeros remain", k)
		}
	}
	zero := split.Before(0)
	if Zero(Seed(zero)) || Zero(Seed(zero-split.Gamma)) {
		t.Error("a seed of zeros")
	}
}
