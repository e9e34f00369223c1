package subset

import (
	"math"
	"math/rand/v2"
	"slices"
	"testing"

	"astragal/api"
	"astragal/lemire"
	"astragal/shuffle"
	"astragal/tape"
)

// lists calls f with all lists of numbers below the limits.
func lists(limits []int, f func([]int)) {
	var grow func(l []int)
	grow = func(l []int) {
		if len(l) == len(limits) {
			f(l)
			return
		}
		for x := range limits[len(l)] {
			grow(append(slices.Clone(l), x))
		}
	}
	grow(nil)
}

func words(r *rand.Rand, n int) []uint64 {
	l := make([]uint64, n)
	for i := range l {
		l[i] = r.Uint64()
		if r.IntN(4) == 0 {
			l[i] = uint64(r.IntN(2)) // rarely accepted
		}
	}
	return l
}

func picked(r *rand.Rand, n, k int) []int { return r.Perm(n)[:k] }

// P41.1, P41.4: all lists of choices lead to all picks, each once.
func TestPickAndChoices(t *testing.T) {
	for n := range 6 {
		for k := range n + 1 {
			var limits []int
			for i := range k {
				limits = append(limits, n-i)
			}
			var seen [][]int
			lists(limits, func(c []int) {
				row := make([]int, n)
				for i := range row {
					row[i] = i
				}
				for i, x := range c {
					row[i], row[i+x] = row[i+x], row[i]
				}
				l, e := Pick(n, c)
				if e != api.OK || !slices.Equal(l, row[:k]) || cap(l) > k && k > 0 {
					t.Fatal("Pick", n, c, l, e)
				}
				if back, e := Choices(n, l); e != api.OK || !slices.Equal(back, c) {
					t.Fatal("Choices", n, l, back, e)
				}
				seen = append(seen, l)
			})
			slices.SortFunc(seen, slices.Compare)
			if len(slices.CompactFunc(seen, slices.Equal)) != len(seen) {
				t.Error("a pick is reached twice", n, k)
			}
		}
	}
	if l, _ := Pick(3, []int{2, 0}); !slices.Equal(l, []int{2, 1}) {
		t.Error("the chapter's example", l)
	}
}

// P41.1
func TestErrorsOfPicks(t *testing.T) {
	long := make([]int, 257)
	for _, c := range []struct {
		n    int
		c    []int
		want api.Errno
	}{
		{-1, nil, api.ErrArg}, {257, nil, api.ErrArg}, {math.MinInt, nil, api.ErrArg}, {math.MaxInt, nil, api.ErrArg},
		{2, []int{0, 0, 0}, api.ErrArg}, {2, []int{9, 9, 9}, api.ErrArg}, {256, long, api.ErrArg}, {0, []int{0}, api.ErrArg},
		{3, []int{3}, api.ErrDomain}, {3, []int{-1}, api.ErrDomain}, {3, []int{0, 2}, api.ErrDomain}, {1, []int{math.MaxInt}, api.ErrDomain},
		{256, long[:256], api.OK}, {0, nil, api.OK}, {5, nil, api.OK},
	} {
		if l, e := Pick(c.n, c.c); e != c.want || e != api.OK && l != nil {
			t.Error("Pick", c.n, len(c.c), l, e)
		}
	}
	for _, c := range []struct {
		n    int
		l    []int
		want api.Errno
	}{
		{-1, nil, api.ErrArg}, {257, []int{9999}, api.ErrArg}, {2, []int{0, 0, 0}, api.ErrArg},
		{2, []int{0, 0}, api.ErrDomain}, {2, []int{2}, api.ErrDomain}, {2, []int{-1}, api.ErrDomain},
		{2, []int{1}, api.OK}, {0, nil, api.OK},
	} {
		if got, e := Choices(c.n, c.l); e != c.want || e != api.OK && got != nil {
			t.Error("Choices", c, got, e)
		}
	}
}

// P41.1
func TestSet(t *testing.T) {
	l := []int{3, -1, 3, math.MaxInt, math.MinInt, 0, -1}
	if got := Set(l); !slices.Equal(got, []int{math.MinInt, -1, 0, 3, math.MaxInt}) {
		t.Error(got)
	}
	if !slices.Equal(l, []int{3, -1, 3, math.MaxInt, math.MinInt, 0, -1}) {
		t.Error("the argument was changed")
	}
	if len(Set(nil)) != 0 {
		t.Error("of nothing")
	}
	one := []int{5}
	if got := Set(one); &got[0] == &one[0] {
		t.Error("shares memory with the argument")
	}
}

// P41.2
func TestTake(t *testing.T) {
	r := rand.New(rand.NewPCG(41, 1))
	for range 500 {
		n := r.IntN(10)
		k := r.IntN(n + 1)
		l := words(r, r.IntN(12))
		p, q := tape.New(l), tape.New(l)
		pick, draws, e := Take(p, n, k)
		c, failed := make([]int, k), api.OK
		var want []api.Draw
		for i := 0; i < k && failed == api.OK; i++ {
			var d api.Draw
			d, failed = lemire.Take(q, uint64(n-i))
			c[i] = int(d.N)
			want = append(want, d)
		}
		if p.Used() != q.Used() || e != failed {
			t.Fatal(n, k, l, e, failed)
		}
		if e != api.OK {
			if pick != nil || draws != nil {
				t.Fatal("with an error", pick, draws)
			}
			continue
		}
		if wanted, _ := Pick(n, c); !slices.Equal(pick, wanted) || !slices.Equal(draws, want) {
			t.Fatal(n, k, l, pick, draws)
		}
	}
	for _, c := range []struct {
		n, k int
		want api.Errno
	}{
		{-1, 0, api.ErrArg}, {5, -1, api.ErrArg}, {5, 6, api.ErrArg}, {300, 301, api.ErrArg}, {math.MinInt, math.MinInt, api.ErrArg},
		{257, 5, api.ErrOver}, {math.MaxInt, 0, api.ErrOver}, {256, 1, api.ErrNil}, {0, 0, api.OK}, {256, 0, api.OK},
	} {
		if pick, draws, e := Take(nil, c.n, c.k); len(pick) != 0 || len(draws) != 0 || e != c.want {
			t.Error(c, pick, draws, e)
		}
	}
	if pick, draws, e := Take(tape.New(words(r, 2000)), 256, 256); e != api.OK || len(draws) != 256 || !shuffle.Is(pick) {
		t.Error("all of 256", e)
	}
}

// P41.2, P41.4, G4
func TestAim(t *testing.T) {
	r := rand.New(rand.NewPCG(41, 2))
	for range 1000 {
		n := r.IntN(10)
		k := r.IntN(n + 1)
		l := words(r, k+r.IntN(8))
		kept := slices.Clone(l)
		pick, draws, e := Take(tape.New(l), n, k)
		there := picked(r, n, k)
		aimed, e2 := Aim(l, n, there)
		if e != e2 {
			t.Fatal(n, k, e, e2)
		}
		if e != api.OK {
			if aimed != nil {
				t.Fatal("with an error", aimed)
			}
			continue
		}
		got, after, _ := Take(tape.New(aimed), n, k)
		if !slices.Equal(got, there) {
			t.Fatal("another pick", l, there, got)
		}
		for i, d := range after {
			if d.Rank != draws[i].Rank || d.Used != draws[i].Used {
				t.Fatal("another rank, or another number of words", l, there, i)
			}
		}
		if back, e := Aim(aimed, n, pick); e != api.OK || !slices.Equal(back, l) {
			t.Fatal("not back", l, there)
		}
		clear(aimed)
		if !slices.Equal(l, kept) {
			t.Fatal("the argument was changed")
		}
	}
	for _, c := range []struct {
		n    int
		l    []int
		want api.Errno
	}{
		{257, nil, api.ErrArg}, {1, []int{0, 0}, api.ErrArg}, {2, []int{0, 0}, api.ErrDomain}, {2, []int{0}, api.ErrExhausted}, {2, nil, api.OK},
	} {
		if got, e := Aim(nil, c.n, c.l); got != nil && len(got) > 0 || e != c.want {
			t.Error(c, got, e)
		}
	}
}

// P41.3
func TestMove(t *testing.T) {
	r := rand.New(rand.NewPCG(41, 3))
	for range 500 {
		n := r.IntN(12)
		k := r.IntN(n + 1)
		from, to := Set(picked(r, n, k)), Set(picked(r, n, k))
		p, e := Move(n, from, to)
		if e != api.OK || !shuffle.Is(p) || len(p) != n {
			t.Fatal(n, from, to, p, e)
		}
		var rest []int
		for x := range n {
			if i := slices.Index(from, x); i >= 0 {
				if p[x] != to[i] {
					t.Fatal("an element of from", n, from, to, p)
				}
			} else {
				rest = append(rest, p[x])
			}
		}
		if !slices.IsSorted(rest) {
			t.Fatal("the others", n, from, to, p)
		}
	}
	if p, _ := Move(4, []int{0, 2}, []int{1, 3}); !slices.Equal(p, []int{1, 0, 3, 2}) {
		t.Error("an example", p)
	}
	for _, c := range []struct {
		n        int
		from, to []int
		want     api.Errno
	}{
		{-1, nil, nil, api.ErrArg}, {257, nil, nil, api.ErrArg}, {257, []int{1, 1}, nil, api.ErrArg}, {math.MaxInt, nil, nil, api.ErrArg},
		{3, []int{1}, nil, api.ErrDomain}, {3, []int{1, 0}, []int{0, 1}, api.ErrDomain}, {3, []int{0, 1}, []int{1, 0}, api.ErrDomain},
		{3, []int{1, 1}, []int{0, 1}, api.ErrDomain}, {3, []int{3}, []int{0}, api.ErrDomain}, {3, []int{0}, []int{-1}, api.ErrDomain},
		{1, []int{0, 1}, []int{0, 1}, api.ErrDomain},
		{256, nil, nil, api.OK}, {0, nil, nil, api.OK},
	} {
		if p, e := Move(c.n, c.from, c.to); e != c.want || e != api.OK && p != nil {
			t.Error(c, p, e)
		}
	}
}

// P41.3, P41.4, G4
func TestAimSet(t *testing.T) {
	r := rand.New(rand.NewPCG(41, 4))
	for range 1000 {
		n := r.IntN(10)
		k := r.IntN(n + 1)
		l := words(r, k+r.IntN(8))
		pick, draws, e := Take(tape.New(l), n, k)
		set := Set(picked(r, n, k))
		aimed, e2 := AimSet(l, n, set)
		if e != e2 {
			t.Fatal(n, k, e, e2)
		}
		if e != api.OK {
			if aimed != nil {
				t.Fatal("with an error", aimed)
			}
			continue
		}
		got, after, _ := Take(tape.New(aimed), n, k)
		move, _ := Move(n, Set(pick), set)
		for i, x := range pick {
			if got[i] != move[x] {
				t.Fatal("another pick", l, set, got)
			}
		}
		for i, d := range after {
			if d.Rank != draws[i].Rank || d.Used != draws[i].Used {
				t.Fatal("another rank, or another number of words", l, set, i)
			}
		}
		if back, e := AimSet(aimed, n, Set(pick)); e != api.OK || !slices.Equal(back, l) {
			t.Fatal("not back", l, set)
		}
	}
	for _, c := range []struct {
		n    int
		set  []int
		want api.Errno
	}{
		{257, nil, api.ErrArg}, {-1, nil, api.ErrArg}, {1, []int{1, 0}, api.ErrArg}, {2, []int{1, 0}, api.ErrDomain}, {2, []int{0, 2}, api.ErrDomain},
		{2, []int{1, 1}, api.ErrDomain}, {2, []int{0, 1}, api.ErrExhausted}, {2, nil, api.OK},
	} {
		if got, e := AimSet(nil, c.n, c.set); len(got) > 0 || e != c.want {
			t.Error(c, got, e)
		}
	}
}
