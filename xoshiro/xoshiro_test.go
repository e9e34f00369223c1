package xoshiro

import (
	"math"
	"math/rand/v2"
	"testing"

	"astragal/split"
)

func random(r *rand.Rand) [4]uint64 {
	return [4]uint64{r.Uint64(), r.Uint64() >> r.IntN(64), r.Uint64() << r.IntN(64), r.Uint64()}
}

// P9.1, P9.2: published words for the state 1, 2, 3, 4.
func TestPublishedWords(t *testing.T) {
	for name, c := range map[string]struct {
		out  func([4]uint64) uint64
		want []uint64
	}{
		"**": {SS, []uint64{11520, 0, 1509978240, 1215971899390074240, 1216172134540287360, 607988272756665600, 16172922978634559625, 8476171486693032832, 10595114339597558777, 2904607092377533576}},
		"++": {PP, []uint64{41943041, 58720359, 3588806011781223, 3591011842654386, 9228616714210784205, 9973669472204895162, 14011001112246962877, 12406186145184390807, 15849039046786891736, 10450023813501588000}},
		"+":  {P, []uint64{5, 211106232532999, 211106635186183, 9223759065350669058, 9250833439874351877, 13862484359527728515, 2346507365006083650, 1168864526675804870, 34095955243042024, 3466914240207415127}},
	} {
		s := [4]uint64{1, 2, 3, 4}
		for i, want := range c.want {
			if got := c.out(s); got != want {
				t.Error(name, i, got, want)
			}
			s = Step(s)
		}
	}
}

// P9.1
func TestStepWrittenOut(t *testing.T) {
	r := rand.New(rand.NewPCG(9, 1))
	for range 2000 {
		s := random(r)
		s0, s1, s2, s3 := s[0], s[1], s[2], s[3]
		shifted := s1 << 17
		s2 ^= s0
		s3 ^= s1
		s1 ^= s2
		s0 ^= s3
		s2 ^= shifted
		s3 = s3<<45 | s3>>19
		if got := Step(s); got != [4]uint64{s0, s1, s2, s3} {
			t.Fatal(s, got)
		}
	}
}

// P9.1
func TestBackAndRun(t *testing.T) {
	r := rand.New(rand.NewPCG(9, 2))
	for range 2000 {
		s := random(r)
		if Back(Step(s)) != s || Step(Back(s)) != s {
			t.Fatal(s)
		}
	}
	s := random(r)
	at := s
	for n := range 5000 {
		want := n
		if n > 4096 {
			want = 4096
		}
		if n == want && Run(s, n) != at {
			t.Fatal(n)
		}
		if n != want && (Run(s, n) != Run(s, 4096) || Run(s, -n) != Run(s, -4096)) {
			t.Fatal("at most 4,096", n)
		}
		if Run(Run(s, -n), n) != s {
			t.Fatal("back", -n)
		}
		at = Step(at)
	}
	if Run(s, -1) != Back(s) || Run(s, 0) != s {
		t.Error("one step back, or none")
	}
	if Run(s, math.MaxInt) != Run(s, 4096) || Run(s, math.MinInt) != Run(s, -4096) || Run(s, math.MinInt+1) != Run(s, -4096) {
		t.Error("the ends of int")
	}
}

// P9.2
func TestOutputsXorZero(t *testing.T) {
	r := rand.New(rand.NewPCG(9, 3))
	rotate := func(x uint64, n int) uint64 { return x<<n | x>>(64-n) }
	for range 2000 {
		s, u := random(r), random(r)
		if SS(s) != rotate(s[1]*5, 7)*9 || PP(s) != rotate(s[0]+s[3], 23)+s[0] || P(s) != s[0]+s[3] {
			t.Fatal(s)
		}
		if Xor(s, u) != [4]uint64{s[0] ^ u[0], s[1] ^ u[1], s[2] ^ u[2], s[3] ^ u[3]} {
			t.Fatal("Xor", s, u)
		}
	}
	if !Zero([4]uint64{}) {
		t.Error("zeros")
	}
	for i := range 4 {
		var s [4]uint64
		s[i] = 1 << (16 * i)
		if Zero(s) {
			t.Error("not zero", s)
		}
	}
}

// P9.3
func TestSeed(t *testing.T) {
	r := rand.New(rand.NewPCG(9, 4))
	for range 500 {
		n := r.Uint64()
		words := split.Words(n, 4)
		if Seed(n) != [4]uint64(words) {
			t.Fatal(n)
		}
	}
	if Seed(0)[0] != 0xe220a8397b1dcdaf {
		t.Error("the first word for 0")
	}
}

// P9.4
func TestLinear(t *testing.T) {
	r := rand.New(rand.NewPCG(9, 5))
	for range 2000 {
		s, u := random(r), random(r)
		if Step(Xor(s, u)) != Xor(Step(s), Step(u)) {
			t.Fatal(s, u)
		}
		if Zero(Step(s)) || Zero(Seed(r.Uint64())) {
			t.Fatal("leads to zeros", s)
		}
	}
	if !Zero(Step([4]uint64{})) || !Zero(Back([4]uint64{})) {
		t.Error("zeros remain")
	}
	// A word of SplitMix64 is 0 for one state only, so a seed that yields one 0 yields no second one.
	zero := split.Before(0)
	for n := range uint64(4) {
		if Zero(Seed(zero - n*split.Gamma)) {
			t.Error("a seed of zeros", n)
		}
	}
}
