package gens

import (
	"math"
	"math/rand/v2"
	"slices"
	"testing"

	"astragal/api"
	"astragal/leap"
	"astragal/pcg32"
	"astragal/pcg64"
	"astragal/split"
	"astragal/wide"
	"astragal/xoroshiro"
	"astragal/xoshiro"
)

var noKinds = []int{0, -1, 9, 256, math.MinInt, math.MaxInt}

// G3, P15.1
func TestSizesCostsNames(t *testing.T) {
	sizes := []int{0, 1, 4, 4, 4, 2, 2, 2, 4}
	costs := []int{0, 1, 1, 1, 1, 1, 1, 2, 1}
	names := []string{"", "split", "xosh**", "xosh++", "xosh+", "xoro**", "xoro++", "pcg32", "pcg64"}
	for k := range sizes {
		if Size(k) != sizes[k] || Cost(k) != costs[k] || Name(k) != names[k] {
			t.Error(k, Size(k), Cost(k), Name(k))
		}
	}
	for _, k := range noKinds {
		if Size(k) != 0 || Cost(k) != 0 || Name(k) != "" {
			t.Error(k)
		}
	}
}

// P15.1
func TestCheck(t *testing.T) {
	for _, c := range []struct {
		kind int
		w    [4]uint64
		want api.Errno
	}{
		{0, [4]uint64{1}, api.ErrKind},
		{9, [4]uint64{1}, api.ErrKind},
		{-1, [4]uint64{}, api.ErrKind},
		{api.Split, [4]uint64{}, api.OK},
		{api.Split, [4]uint64{5}, api.OK},
		{api.Split, [4]uint64{5, 1}, api.ErrForm},
		{api.Split, [4]uint64{5, 0, 0, 1}, api.ErrForm},
		{api.XoshSS, [4]uint64{}, api.ErrSeed},
		{api.XoshPP, [4]uint64{}, api.ErrSeed},
		{api.XoshP, [4]uint64{}, api.ErrSeed},
		{api.XoshP, [4]uint64{0, 0, 0, 1}, api.OK},
		{api.XoroSS, [4]uint64{}, api.ErrSeed},
		{api.XoroPP, [4]uint64{}, api.ErrSeed},
		{api.XoroSS, [4]uint64{0, 0, 1}, api.ErrForm},
		{api.XoroPP, [4]uint64{0, 1}, api.OK},
		{api.XoroPP, [4]uint64{1, 0, 0, 1}, api.ErrForm},
		{api.Pcg32, [4]uint64{0, 1}, api.OK},
		{api.Pcg32, [4]uint64{1, 2}, api.ErrSeed},
		{api.Pcg32, [4]uint64{1, 2, 3}, api.ErrForm},
		{api.Pcg32, [4]uint64{}, api.ErrSeed},
		{api.Pcg64, [4]uint64{0, 0, 1, 0}, api.OK},
		{api.Pcg64, [4]uint64{1, 1, 2, 1}, api.ErrSeed},
		{api.Pcg64, [4]uint64{}, api.ErrSeed},
	} {
		s := api.State{Kind: c.kind, W: c.w}
		if got := Check(s); got != c.want {
			t.Error(c, got)
		}
		if c.want == api.OK {
			continue
		}
		if got, e := Step(s); got != (api.State{}) || e != c.want {
			t.Error("Step", c, got, e)
		}
		if out, got, e := Next(s); out != 0 || got != (api.State{}) || e != c.want {
			t.Error("Next", c, got, e)
		}
		if got, e := Jump(s, wide.Of4(1)); got != (api.State{}) || e != c.want {
			t.Error("Jump", c, got, e)
		}
		if out, got, e := Words(s, 3); out != nil || got != (api.State{}) || e != c.want {
			t.Error("Words", c, got, e)
		}
	}
}

// P15.2
func TestNew(t *testing.T) {
	r := rand.New(rand.NewPCG(15, 1))
	for range 200 {
		seed := r.Uint64() >> r.IntN(65)
		w := split.Words(seed, 4)
		x4, x2 := xoshiro.Seed(seed), xoroshiro.Seed(seed)
		s32, inc32 := pcg32.Seed(w[0], w[1])
		s64, inc64 := pcg64.Seed(api.U128{Lo: w[0], Hi: w[1]}, api.U128{Lo: w[2], Hi: w[3]})
		for kind, want := range [][4]uint64{
			api.Split: {seed}, api.XoshSS: x4, api.XoshPP: x4, api.XoshP: x4,
			api.XoroSS: {x2[0], x2[1]}, api.XoroPP: {x2[0], x2[1]},
			api.Pcg32: {s32, inc32}, api.Pcg64: {s64.Lo, s64.Hi, inc64.Lo, inc64.Hi},
		} {
			got, e := New(kind, seed)
			if kind == 0 {
				if got != (api.State{}) || e != api.ErrKind {
					t.Fatal(kind, got, e)
				}
			} else if got != (api.State{Kind: kind, W: want}) || e != api.OK || Check(got) != api.OK {
				t.Fatal(kind, seed, got, e)
			}
		}
	}
	for _, k := range noKinds {
		if s, e := New(k, 5); s != (api.State{}) || e != api.ErrKind {
			t.Error(k, s, e)
		}
	}
}

// P15.3: each kind against its package.
func TestNextAndStep(t *testing.T) {
	r := rand.New(rand.NewPCG(15, 2))
	for range 200 {
		seed := r.Uint64()
		for kind := 1; kind <= api.LastGen; kind++ {
			s, _ := New(kind, seed)
			w := s.W
			u := [2]uint64{w[0], w[1]}
			var out uint64
			var step [4]uint64
			switch kind {
			case api.Split:
				out, step[0] = split.Next(w[0])
			case api.XoshSS:
				out, step = xoshiro.SS(w), xoshiro.Step(w)
			case api.XoshPP:
				out, step = xoshiro.PP(w), xoshiro.Step(w)
			case api.XoshP:
				out, step = xoshiro.P(w), xoshiro.Step(w)
			case api.XoroSS, api.XoroPP:
				v := xoroshiro.Step(kind, u)
				out, step = xoroshiro.Out(kind, u), [4]uint64{v[0], v[1]}
			case api.Pcg32:
				step = [4]uint64{pcg32.Step(w[0], w[1]), w[1]}
				out = uint64(pcg32.Out(step[0]))<<32 | uint64(pcg32.Out(w[0]))
			case api.Pcg64:
				var v api.U128
				out, v = pcg64.Next(api.U128{Lo: w[0], Hi: w[1]}, api.U128{Lo: w[2], Hi: w[3]})
				step = [4]uint64{v.Lo, v.Hi, w[2], w[3]}
			}
			gotStep, e := Step(s)
			if gotStep != (api.State{Kind: kind, W: step}) || e != api.OK {
				t.Fatal("Step", kind, seed, gotStep, e)
			}
			after := gotStep
			if kind == api.Pcg32 {
				after, _ = Step(after)
			}
			got, gotAfter, e := Next(s)
			if got != out || gotAfter != after || e != api.OK {
				t.Fatal("Next", kind, seed, got, out, e)
			}
		}
	}
	s, _ := New(api.Split, 0)
	if out, _, _ := Next(s); out != 0xe220a8397b1dcdaf {
		t.Error("the chapter's example")
	}
}

// P15.3, P15.4
func TestWords(t *testing.T) {
	for kind := 1; kind <= api.LastGen; kind++ {
		s, _ := New(kind, 77)
		for _, n := range []int{0, 1, 2, 50, 4096} {
			out, after, e := Words(s, n)
			at := s
			for i := range n {
				var w uint64
				w, at, _ = Next(at)
				if out[i] != w {
					t.Fatal(kind, n, i)
				}
			}
			if e != api.OK || len(out) != n || after != at {
				t.Fatal(kind, n, e)
			}
			if jumped, _ := Jump(s, wide.Of4(uint64(n*Cost(kind)))); jumped != after {
				t.Error("n * Cost steps", kind, n)
			}
		}
		most, afterMost, _ := Words(s, 4096)
		for _, n := range []int{4097, math.MaxInt} {
			if out, after, _ := Words(s, n); !slices.Equal(out, most) || after != afterMost {
				t.Error("at most 4,096", kind, n)
			}
		}
		for _, n := range []int{-1, math.MinInt} {
			if out, after, e := Words(s, n); len(out) != 0 || after != s || e != api.OK {
				t.Error("none", kind, n)
			}
		}
	}
}

// G3, P15.3, P15.4
func TestJump(t *testing.T) {
	r := rand.New(rand.NewPCG(15, 3))
	for kind := 1; kind <= api.LastGen; kind++ {
		s, _ := New(kind, r.Uint64())
		at := s
		for n := range uint64(40) {
			if got, e := Jump(s, wide.Of4(n)); got != at || e != api.OK {
				t.Fatal(kind, n, got, e)
			}
			at, _ = Step(at)
		}
		for range 10 {
			a := api.U256{r.Uint64(), r.Uint64(), r.Uint64(), r.Uint64() >> 1}
			b := api.U256{r.Uint64(), r.Uint64(), r.Uint64(), r.Uint64() >> 1}
			sum, _ := wide.Add4(a, b)
			first, _ := Jump(s, a)
			both, _ := Jump(first, b)
			if got, _ := Jump(s, sum); got != both {
				t.Fatal("jumps add up", kind, a, b)
			}
		}
	}
}

// G3: the periods.
func TestPeriods(t *testing.T) {
	one := wide.Of4(1)
	for kind := 1; kind <= api.LastGen; kind++ {
		s, _ := New(kind, 5)
		var period, half api.U256
		switch kind {
		case api.Split, api.Pcg32:
			period, half = leap.Power(64), leap.Power(63)
		case api.Pcg64:
			period, half = leap.Power(128), leap.Power(127)
		case api.XoroSS, api.XoroPP:
			period, _ = wide.Sub4(leap.Power(128), one)
		default:
			period, _ = wide.Sub4(api.U256{}, one)
		}
		if got, _ := Jump(s, period); got != s {
			t.Error("doesn't recur", kind)
		}
		// A power of 2 has no prime factor but 2; for the others see package leap.
		if half == (api.U256{}) {
			continue
		}
		if got, _ := Jump(s, half); got == s {
			t.Error("recurs too soon", kind)
		}
	}
}
