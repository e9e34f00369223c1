package ranges

import (
	"math"
	"math/big"
	"math/rand/v2"
	"testing"

	"astragal/api"
	"astragal/wide"
)

func big1(n uint64) *big.Int { return new(big.Int).SetUint64(n) }

func big2(a api.U128) *big.Int {
	return new(big.Int).Add(new(big.Int).Lsh(big1(a.Hi), 64), big1(a.Lo))
}

func word(r *rand.Rand) uint64 {
	edges := []uint64{0, 1, 2, 3, 10, 1<<32 - 1, 1 << 32, 1<<63 - 1, 1 << 63, 1<<64 - 2, 1<<64 - 1}
	if r.IntN(3) == 0 {
		return edges[r.IntN(len(edges))]
	}
	return r.Uint64() >> r.IntN(64)
}

// P26.1 to P26.3: by trying all numbers.
func TestAllNumbers(t *testing.T) {
	for w := 1; w <= 7; w++ {
		for m := uint64(1); m < 300; m++ {
			counts := make([]uint64, m)
			former := uint64(0)
			for x := range uint64(1) << w {
				want := x * m >> w
				v, e := Reduce(x, w, m)
				if v != want || e != api.OK || v < former {
					t.Fatal("Reduce", x, w, m, v, e)
				}
				gotV, rank, e := Rank(x, w, m)
				if gotV != v || rank != counts[v] || e != api.OK {
					t.Fatal("Rank", x, w, m, gotV, rank, e)
				}
				if back, e := Unrank(v, rank, w, m); back != x || e != api.OK {
					t.Fatal("Unrank", x, w, m, back, e)
				}
				counts[v]++
				former = v
			}
			before := uint64(0)
			for v, n := range counts {
				if got, e := Count(uint64(v), w, m); got != (api.U128{Lo: n}) || e != api.OK {
					t.Fatal("Count", v, w, m, got, e)
				}
				if n != 1<<w/m && n != (1<<w+m-1)/m {
					t.Fatal("not as evenly as possible", v, w, m, n)
				}
				if got, e := First(uint64(v), w, m); got != (api.U128{Lo: before}) || e != api.OK {
					t.Fatal("First", v, w, m, got, e)
				}
				if x, e := Unrank(uint64(v), n, w, m); x != 0 || e != api.ErrDomain {
					t.Fatal("a rank that there is not", v, w, m, x, e)
				}
				before += n
			}
			if got, e := First(m, w, m); got != (api.U128{Lo: 1 << w}) || e != api.OK {
				t.Fatal("First of m", w, m, got, e)
			}
		}
	}
	if v, _ := Reduce(7, 3, 3); v != 2 {
		t.Error("the chapter's example", v)
	}
	if n, _ := Count(0, 3, 3); n != (api.U128{Lo: 3}) {
		t.Error("the chapter's example", n)
	}
}

// P26.1 to P26.4: great numbers.
func TestGreatNumbers(t *testing.T) {
	r := rand.New(rand.NewPCG(26, 1))
	for range 20000 {
		w, m := 1+r.IntN(64), word(r)
		if r.IntN(3) == 0 {
			w = 64
		}
		if m == 0 {
			continue
		}
		x := word(r) >> (64 - w)
		all := new(big.Int).Lsh(big.NewInt(1), uint(w))
		v, e := Reduce(x, w, m)
		want := new(big.Int).Rsh(new(big.Int).Mul(big1(x), big1(m)), uint(w))
		if big1(v).Cmp(want) != 0 || e != api.OK || v >= m {
			t.Fatal("Reduce", x, w, m, v, e)
		}
		if x > 0 {
			if less, _ := Reduce(x-1, w, m); less > v {
				t.Fatal("decreases", x, w, m)
			}
		}
		first := func(v uint64) *big.Int {
			q, rest := new(big.Int).QuoRem(new(big.Int).Mul(big1(v), all), big1(m), new(big.Int))
			if rest.Sign() > 0 {
				q.Add(q, big.NewInt(1))
			}
			return q
		}
		if got, e := First(v, w, m); big2(got).Cmp(first(v)) != 0 || e != api.OK {
			t.Fatal("First", v, w, m, got, e)
		}
		count, e := Count(v, w, m)
		if big2(count).Cmp(new(big.Int).Sub(first(v+1), first(v))) != 0 && v+1 != 0 || e != api.OK {
			t.Fatal("Count", v, w, m, count, e)
		}
		low := new(big.Int).Quo(all, big1(m))
		if over := new(big.Int).Sub(big2(count), low); over.Sign() < 0 || over.Cmp(big.NewInt(1)) > 0 {
			t.Fatal("not as evenly as possible", v, w, m, count)
		}
		gotV, rank, e := Rank(x, w, m)
		if gotV != v || e != api.OK || new(big.Int).Add(first(v), big1(rank)).Cmp(big1(x)) != 0 {
			t.Fatal("Rank", x, w, m, gotV, rank, e)
		}
		if back, e := Unrank(v, rank, w, m); back != x || e != api.OK {
			t.Fatal("Unrank", x, w, m, back, e)
		}
		if count.Hi == 0 {
			if got, e := Unrank(v, count.Lo, w, m); got != 0 || e != api.ErrDomain {
				t.Fatal("a rank that there is not", v, w, m, got, e)
			}
		}
		if got, e := First(m, w, m); got != wide.Shl(api.U128{Lo: 1}, w) || e != api.OK {
			t.Fatal("First of m", w, m, got, e)
		}
	}
	if count, e := Count(0, 64, 1); count != (api.U128{Hi: 1}) || e != api.OK {
		t.Error("all words", count, e)
	}
	if x, e := Unrank(0, 1<<64-1, 64, 1); x != 1<<64-1 || e != api.OK {
		t.Error("the last word", x, e)
	}
}

// P26.1 to P26.3
func TestErrors(t *testing.T) {
	for _, c := range []struct {
		w    int
		m    uint64
		want api.Errno
	}{
		{0, 0, api.ErrArg}, {65, 1, api.ErrArg}, {-1, 1, api.ErrArg}, {math.MinInt, 0, api.ErrArg}, {math.MaxInt, 1, api.ErrArg},
		{1, 0, api.ErrZero}, {64, 0, api.ErrZero},
		{8, 5, api.ErrDomain},
	} {
		if e := Check(c.w, c.m); e != c.want && c.want != api.ErrDomain {
			t.Error("Check", c, e)
		}
		if v, e := Reduce(256, c.w, c.m); v != 0 || e != c.want {
			t.Error("Reduce", c, v, e)
		}
		if v, rank, e := Rank(256, c.w, c.m); v != 0 || rank != 0 || e != c.want {
			t.Error("Rank", c, v, rank, e)
		}
		if n, e := First(6, c.w, c.m); n != (api.U128{}) || e != c.want {
			t.Error("First", c, n, e)
		}
		if n, e := Count(5, c.w, c.m); n != (api.U128{}) || e != c.want {
			t.Error("Count", c, n, e)
		}
		if x, e := Unrank(5, 0, c.w, c.m); x != 0 || e != c.want {
			t.Error("Unrank", c, x, e)
		}
	}
	if Check(1, 1) != api.OK || Check(64, 1<<64-1) != api.OK {
		t.Error("allowed ones")
	}
	if v, e := Reduce(1<<64-1, 64, 1<<64-1); v != 1<<64-2 || e != api.OK {
		t.Error("the greatest ones", v, e)
	}
}
