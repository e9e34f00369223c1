package leap

import (
	"math"
	"math/rand/v2"
	"testing"

	"astragal/api"
	"astragal/gf2"
	"astragal/wide"
	"astragal/xoroshiro"
	"astragal/xoshiro"
)

var kinds = []int{api.XoroSS, api.XoroPP}

func four(r *rand.Rand) [4]uint64 {
	return [4]uint64{r.Uint64(), r.Uint64() >> r.IntN(65), r.Uint64(), r.Uint64()}
}

func two(r *rand.Rand) [2]uint64 { return [2]uint64{r.Uint64() >> r.IntN(65), r.Uint64()} }

func number(r *rand.Rand) api.U256 {
	n := api.U256{r.Uint64(), r.Uint64(), r.Uint64(), r.Uint64()}
	for i := r.IntN(4); i > 0; i-- {
		n[4-i] = 0
	}
	return n
}

// P12.1
func TestBy(t *testing.T) {
	r := rand.New(rand.NewPCG(12, 1))
	for range 100 {
		m := []uint64{r.Uint64() & r.Uint64(), r.Uint64() >> r.IntN(64), 0}
		s, u := four(r), two(r)
		var want4 [4]uint64
		for j := range 192 {
			if gf2.Coef(m, j) {
				want4 = xoshiro.Xor(want4, xoshiro.Run(s, j))
			}
		}
		if By4(m, s) != want4 {
			t.Fatal(m, s)
		}
		for _, k := range kinds {
			var want2 [2]uint64
			for j := range 192 {
				if gf2.Coef(m, j) {
					want2 = xoroshiro.Xor(want2, xoroshiro.Run(k, u, j))
				}
			}
			if By2(k, m, u) != want2 {
				t.Fatal(k, m, u)
			}
		}
	}
	s, u := four(r), two(r)
	for _, zero := range [][]uint64{nil, {0}, {0, 0}} {
		if !xoshiro.Zero(By4(zero, s)) || !xoroshiro.Zero(By2(api.XoroSS, zero, u)) {
			t.Error("no terms")
		}
	}
	if By4([]uint64{2}, s) != xoshiro.Step(s) || By4([]uint64{1}, s) != s {
		t.Error("x and 1")
	}
}

// P12.1 to P12.3
func TestOtherParameters(t *testing.T) {
	s := [2]uint64{5, 6}
	for _, k := range []int{0, -1, api.XoshP, api.Pcg32, math.MinInt, math.MaxInt} {
		if By2(k, nil, s) != s || By2(k, []uint64{7}, s) != s || Jump2(k, s, wide.Of4(9)) != s || Fixed2(k, false, s) != s || Fixed2(k, true, s) != s {
			t.Error(k)
		}
	}
}

// P12.2
func TestJumpIsSteps(t *testing.T) {
	r := rand.New(rand.NewPCG(12, 2))
	for _, n := range []int{0, 1, 2, 3, 127, 128, 129, 255, 256, 257, 511, 1000, 4096} {
		s, u := four(r), two(r)
		if Jump4(s, wide.Of4(uint64(n))) != xoshiro.Run(s, n) {
			t.Error("Jump4", n)
		}
		for _, k := range kinds {
			if Jump2(k, u, wide.Of4(uint64(n))) != xoroshiro.Run(k, u, n) {
				t.Error("Jump2", k, n)
			}
		}
	}
	if !xoshiro.Zero(Jump4([4]uint64{}, wide.Of4(5))) || !xoroshiro.Zero(Jump2(api.XoroPP, [2]uint64{}, wide.Of4(5))) {
		t.Error("zeros remain")
	}
}

// P12.3
func TestPower(t *testing.T) {
	for n := range 256 {
		if got := Power(n); !wide.Bit4(got, n) || wide.Len4(got) != n+1 || wide.Cmp4(got, wide.Shl4(wide.Of4(1), n)) != 0 {
			t.Error(n, got)
		}
	}
	for _, n := range []int{-1, 256, 257, math.MinInt, math.MaxInt} {
		if Power(n) != (api.U256{}) {
			t.Error(n)
		}
	}
}

// P12.3, P12.5
func TestPublishedJumps(t *testing.T) {
	r := rand.New(rand.NewPCG(12, 3))
	for range 5 {
		s, u := four(r), two(r)
		if Fixed4(false, s) != Jump4(s, Power(128)) || Fixed4(true, s) != Jump4(s, Power(192)) {
			t.Error("Fixed4", s)
		}
		for _, k := range kinds {
			if Fixed2(k, false, u) != Jump2(k, u, Power(64)) || Fixed2(k, true, u) != Jump2(k, u, Power(96)) {
				t.Error("Fixed2", k, u)
			}
		}
	}
}

// P12.4
func TestJumpsAddUp(t *testing.T) {
	r := rand.New(rand.NewPCG(12, 4))
	for range 20 {
		s, u, a, b := four(r), two(r), number(r), number(r)
		sum, over := wide.Add4(a, b)
		if over {
			// The period is 2^256 - 1, so what is lost counts as one step.
			sum, _ = wide.Add4(sum, wide.Of4(1))
		}
		if Jump4(Jump4(s, a), b) != Jump4(s, sum) {
			t.Error("Jump4", s, a, b)
		}
		for _, k := range kinds {
			if Jump2(k, Jump2(k, u, a), b) != Jump2(k, u, sum) {
				t.Error("Jump2", k, u, a, b)
			}
		}
		all := api.U256{1<<64 - 1, 1<<64 - 1, 1<<64 - 1, 1<<64 - 1}
		if Jump4(s, all) != s {
			t.Error("2^256 - 1 steps", s)
		}
		for _, k := range kinds {
			if Jump2(k, u, api.U256{1<<64 - 1, 1<<64 - 1}) != u {
				t.Error("2^128 - 1 steps", k, u)
			}
		}
	}
}

// P12.6: the period divides 2^256 - 1 (2^128 - 1); it is not a part of it, as
// no state recurs after this number divided by any of its prime factors.
func TestPeriod(t *testing.T) {
	r := rand.New(rand.NewPCG(12, 5))
	s, u := four(r), two(r)
	if xoshiro.Zero(s) || xoroshiro.Zero(u) {
		t.Fatal("zeros")
	}
	primes128 := []string{"3", "5", "17", "257", "641", "65537", "274177", "6700417", "67280421310721"}
	primes256 := append(primes128, "59649589127497217", "5704689200685129054721")
	check := func(primes []string, steps api.U256, same func(api.U256) bool) {
		left := steps
		for _, text := range primes {
			p, _ := wide.Read4(text)
			quotient, rest := divide(steps, p)
			if rest != (api.U256{}) {
				t.Fatal("not a factor", text)
			}
			left, _ = divide(left, p)
			if same(quotient) {
				t.Error("recurs after", wide.Text4(quotient))
			}
		}
		if left != wide.Of4(1) {
			t.Error("factors are missing", wide.Text4(left))
		}
	}
	all := api.U256{1<<64 - 1, 1<<64 - 1, 1<<64 - 1, 1<<64 - 1}
	check(primes256, all, func(n api.U256) bool { return Jump4(s, n) == s })
	for _, k := range kinds {
		check(primes128, api.U256{1<<64 - 1, 1<<64 - 1}, func(n api.U256) bool { return Jump2(k, u, n) == u })
	}
}

// divide is long division, bit by bit.
func divide(a, b api.U256) (api.U256, api.U256) {
	var quotient, rest api.U256
	for i := 255; i >= 0; i-- {
		rest = wide.Shl4(rest, 1)
		if wide.Bit4(a, i) {
			rest[0] |= 1
		}
		if wide.Cmp4(rest, b) >= 0 {
			rest, _ = wide.Sub4(rest, b)
			quotient[i/64] |= 1 << (i % 64)
		}
	}
	return quotient, rest
}
