package mshift

import (
	"math"
	"math/rand/v2"
	"testing"

	"astragal/api"
	"astragal/modn"
)

// P20.1
func TestEval(t *testing.T) {
	r := rand.New(rand.NewPCG(20, 1))
	for range 500 {
		a, x := r.Uint64()|1, r.Uint64()
		for bits := 1; bits <= 64; bits++ {
			if got, e := Eval(a, bits, x); e != api.OK || got != a*x>>(64-bits) {
				t.Fatal(a, bits, x, got, e)
			}
			if Check(a, bits) != api.OK {
				t.Fatal("Check", a, bits)
			}
		}
	}
	if got, e := Eval(1, 8, 1<<56); got != 1 || e != api.OK {
		t.Error("the chapter's example", got, e)
	}
	for _, c := range []struct {
		a    uint64
		bits int
		want api.Errno
	}{
		{1, 0, api.ErrArg}, {1, 65, api.ErrArg}, {2, 0, api.ErrArg}, {2, -1, api.ErrArg},
		{1, math.MinInt, api.ErrArg}, {1, math.MaxInt, api.ErrArg},
		{2, 1, api.ErrSeed}, {0, 64, api.ErrSeed},
	} {
		if Check(c.a, c.bits) != c.want {
			t.Error("Check", c)
		}
		if got, e := Eval(c.a, c.bits, 5); got != 0 || e != c.want {
			t.Error("Eval", c, got, e)
		}
		if got, e := Meets(c.a, c.bits, 5, 5); got || e != c.want {
			t.Error("Meets", c, got, e)
		}
		if got, ok := Rank(c.a, c.bits, 5, 6); got != 0 || ok {
			t.Error("Rank", c, got)
		}
	}
}

// P20.1
func TestMeetsAndBound(t *testing.T) {
	r := rand.New(rand.NewPCG(20, 2))
	met := 0
	for range 3000 {
		a, x, bits := r.Uint64()|1, r.Uint64(), 1+r.IntN(64)
		y := x + 1 + r.Uint64N(1<<r.IntN(64))
		if y == x {
			continue
		}
		u, _ := Eval(a, bits, x)
		v, _ := Eval(a, bits, y)
		got, e := Meets(a, bits, x, y)
		if got != (u == v) || e != api.OK {
			t.Fatal(a, bits, x, y, got, e)
		}
		if got {
			met++
		}
	}
	if met == 0 {
		t.Error("no collision was tried")
	}
	if got, e := Meets(3, 8, 9, 9); got || e != api.ErrSame {
		t.Error("equal keys", got, e)
	}
	for bits := -2; bits < 70; bits++ {
		var want api.U128
		if bits >= 1 && bits <= 64 {
			want.Lo = 1 << (64 - bits)
		}
		if Bound(bits) != want {
			t.Error("Bound", bits, Bound(bits))
		}
	}
	if Bound(math.MinInt) != (api.U128{}) || Bound(math.MaxInt) != (api.U128{}) {
		t.Error("Bound at the ends of int")
	}
}

// rank is the definition of the chapter, for a close multiplier.
func rank(a uint64, bits int, x, y uint64) (uint64, bool) {
	z := x - y
	d, s := modn.Left(z)
	if 64-bits <= s {
		return 0, false
	}
	limit := uint64(1) << (64 - bits - s)
	m := a * d
	top := uint64(0)
	if s > 0 {
		top = m >> (64 - s)
	}
	// a * z is q * 2^s, or 2^64 - q * 2^s.
	if q := a * z >> s; a*z == q<<s && q%2 == 1 && q < limit {
		return 2*(q/2)<<s + top, true
	}
	if q := -(a * z) >> s; -(a*z) == q<<s && q%2 == 1 && q < limit {
		return (2*(q/2)+1)<<s + top, true
	}
	return 0, false
}

// P20.2
func TestRank(t *testing.T) {
	r := rand.New(rand.NewPCG(20, 3))
	near := 0
	for range 20000 {
		a, x, bits := r.Uint64()|1, r.Uint64(), 1+r.IntN(12)
		y := x + r.Uint64()<<r.IntN(64)
		if x == y {
			continue
		}
		want, wantOK := rank(a, bits, x, y)
		got, ok := Rank(a, bits, x, y)
		if got != want || ok != wantOK {
			t.Fatal("Rank", a, bits, x, y, got, want, ok)
		}
		if ok {
			near++
			if back, ok := Unrank(got, bits, x, y); back != a || !ok {
				t.Fatal("Unrank", a, bits, x, y, back)
			}
		}
	}
	if near == 0 {
		t.Error("no close multiplier was tried")
	}
}

// P20.2, P20.3: all ranks below the bound, and none above.
func TestUnrank(t *testing.T) {
	r := rand.New(rand.NewPCG(20, 4))
	for bits := 56; bits <= 64; bits++ {
		for s := range 64 {
			x := r.Uint64()
			y := x + (r.Uint64()|1)<<s
			bound := Bound(bits).Lo
			seen := map[uint64]int{}
			for n := range bound {
				a, ok := Unrank(n, bits, x, y)
				if ok != (64-bits > s) || !ok && a != 0 {
					t.Fatal("Unrank", n, bits, s, a, ok)
				}
				if !ok {
					continue
				}
				seen[a]++
				if got, ok := Rank(a, bits, x, y); got != n || !ok || seen[a] > 1 || a%2 == 0 {
					t.Fatal("Rank of Unrank", n, bits, s, a, got, ok)
				}
			}
			for _, n := range []uint64{bound, bound + 1, 2 * bound, 1 << 63, 1<<64 - 1} {
				if a, ok := Unrank(n, bits, x, y); ok || a != 0 {
					t.Fatal("a rank beyond the bound", n, bits, s, a)
				}
			}
		}
	}
	for _, bits := range []int{0, -1, 65, math.MinInt, math.MaxInt} {
		if a, ok := Unrank(0, bits, 1, 2); ok || a != 0 {
			t.Error("bits", bits, a)
		}
	}
	if a, ok := Unrank(0, 8, 5, 5); ok || a != 0 {
		t.Error("equal keys", a)
	}
	if n, ok := Rank(1, 8, 5, 5); ok || n != 0 {
		t.Error("equal keys", n)
	}
}

// G2, P20.3: whoever lets two keys collide is close.
func TestCollisionsAreClose(t *testing.T) {
	r := rand.New(rand.NewPCG(20, 5))
	met := 0
	for range 60000 {
		a, x, bits := r.Uint64()|1, r.Uint64(), 1+r.IntN(10)
		y := x + r.Uint64()<<r.IntN(64)
		if meets, e := Meets(a, bits, x, y); e != api.OK || !meets {
			continue
		}
		met++
		if n, ok := Rank(a, bits, x, y); !ok || n >= Bound(bits).Lo {
			t.Fatal("not close", a, bits, x, y, n, ok)
		}
	}
	if met < 100 {
		t.Error("few collisions were tried", met)
	}
}
