package shuffle

import (
	"math"
	"math/rand/v2"
	"slices"
	"testing"

	"astragal/api"
	"astragal/lemire"
	"astragal/tape"
)

// lists calls f with all lists of n numbers below the limits.
func lists(limits []int, f func([]int)) {
	var grow func(l []int)
	grow = func(l []int) {
		if len(l) == len(limits) {
			f(l)
			return
		}
		for x := range limits[len(l)] {
			grow(append(slices.Clone(l), x))
		}
	}
	grow(nil)
}

func words(r *rand.Rand, n int) []uint64 {
	l := make([]uint64, n)
	for i := range l {
		l[i] = r.Uint64()
		if r.IntN(4) == 0 {
			l[i] = uint64(r.IntN(2)) // rarely accepted
		}
	}
	return l
}

// P40.1
func TestIs(t *testing.T) {
	for n := range 5 {
		limits := slices.Repeat([]int{n + 2}, n)
		orders := 0
		lists(limits, func(l []int) {
			p := make([]int, n)
			for i, x := range l {
				p[i] = x - 1
			}
			sorted := slices.Clone(p)
			slices.Sort(sorted)
			want := true
			for i, x := range sorted {
				want = want && i == x
			}
			if Is(p) != want {
				t.Fatal(p)
			}
			if want {
				orders++
			}
		})
		if want := []int{1, 1, 2, 6, 24}[n]; orders != want {
			t.Error(n, orders)
		}
	}
	if Is([]int{math.MinInt}) || Is([]int{math.MaxInt}) || !Is(nil) {
		t.Error("edges")
	}
}

// P40.1, P40.4: all lists of choices lead to all orders, each once.
func TestPermAndChoices(t *testing.T) {
	for n := range 7 {
		var limits []int
		for i := range n {
			limits = append(limits, i+1)
		}
		var seen [][]int
		lists(limits, func(c []int) {
			want := make([]int, n)
			for i := range want {
				want[i] = i
			}
			for i := n - 1; i >= 1; i-- {
				want[i], want[c[i]] = want[c[i]], want[i]
			}
			p, e := Perm(c)
			if e != api.OK || !slices.Equal(p, want) || !Is(p) {
				t.Fatal("Perm", c, p, e)
			}
			if back, e := Choices(p); e != api.OK || !slices.Equal(back, c) {
				t.Fatal("Choices", c, p, back, e)
			}
			seen = append(seen, p)
		})
		slices.SortFunc(seen, slices.Compare)
		if len(slices.CompactFunc(seen, slices.Equal)) != len(seen) {
			t.Error("an order is reached twice", n)
		}
	}
	if p, _ := Perm([]int{0, 0, 0}); !slices.Equal(p, []int{1, 2, 0}) {
		t.Error("the chapter's example", p)
	}
	for _, c := range [][]int{{1}, {-1}, {0, 2}, {0, 1, 3}, {0, -1}, {0, math.MinInt}, {math.MaxInt}} {
		if p, e := Perm(c); p != nil || e != api.ErrDomain {
			t.Error("Perm", c, p, e)
		}
	}
	for _, p := range [][]int{{1}, {-1}, {0, 0}, {0, 2}, {2, 0, 2}} {
		if c, e := Choices(p); c != nil || e != api.ErrDomain {
			t.Error("Choices", p, c, e)
		}
	}
	long := make([]int, 1000)
	if p, e := Perm(long); e != api.OK || !Is(p) {
		t.Error("a long list", e)
	}
}

// P40.1
func TestThenAndBack(t *testing.T) {
	r := rand.New(rand.NewPCG(40, 1))
	for range 500 {
		n := r.IntN(20)
		p, q := r.Perm(n), r.Perm(n)
		then := Then(p, q)
		for i := range n {
			if then[i] != p[q[i]] {
				t.Fatal("Then", p, q, then)
			}
		}
		for i, x := range Then(p, Back(p)) {
			if i != x {
				t.Fatal("Back", p)
			}
		}
		for i, x := range Then(Back(p), p) {
			if i != x {
				t.Fatal("Back", p)
			}
		}
	}
	good, wrong := []int{1, 0}, []int{1, 1}
	if Then(good, wrong) != nil || Then(wrong, good) != nil || Then(good, []int{0}) != nil || Then(wrong, []int{0}) != nil || Back(wrong) != nil {
		t.Error("no orders")
	}
	if len(Then(nil, nil)) != 0 || len(Back(nil)) != 0 {
		t.Error("no items")
	}
}

// P40.2
func TestTake(t *testing.T) {
	r := rand.New(rand.NewPCG(40, 2))
	for range 500 {
		n := r.IntN(8)
		l := words(r, r.IntN(12))
		p, q := tape.New(l), tape.New(l)
		order, draws, e := Take(p, n)
		c, failed := make([]int, n), api.OK
		var want []api.Draw
		for i := n - 1; i >= 1 && failed == api.OK; i-- {
			var d api.Draw
			d, failed = lemire.Take(q, uint64(i+1))
			c[i] = int(d.N)
			want = append(want, d)
		}
		if p.Used() != q.Used() || e != failed {
			t.Fatal(n, l, e, failed)
		}
		if e != api.OK {
			if order != nil || draws != nil || p.Left() != 0 {
				t.Fatal("with an error", order, draws)
			}
			continue
		}
		if perm, _ := Perm(c); !slices.Equal(order, perm) || !slices.Equal(draws, want) {
			t.Fatal(n, l, order, draws)
		}
	}
	many := tape.New(words(r, 2000))
	if p, draws, e := Take(many, 256); e != api.OK || len(draws) != 255 || !Is(p) || len(p) != 256 {
		t.Error("256 items", e)
	}
	for n, want := range map[int]api.Errno{-1: api.ErrArg, math.MinInt: api.ErrArg, 257: api.ErrOver, math.MaxInt: api.ErrOver} {
		for _, p := range []*tape.Tape{nil, tape.New(make([]uint64, 9))} {
			if order, draws, e := Take(p, n); order != nil || draws != nil || e != want || p.Used() != 0 {
				t.Error(n, e)
			}
		}
	}
	for n := range 2 {
		if p, draws, e := Take(nil, n); len(p) != n || draws != nil || e != api.OK {
			t.Error("nothing to be drawn", n, p, e)
		}
	}
	if p, draws, e := Take(nil, 2); p != nil || draws != nil || e != api.ErrNil {
		t.Error("no tape", p, draws, e)
	}
}

// P40.3, P40.4, G4
func TestAim(t *testing.T) {
	r := rand.New(rand.NewPCG(40, 3))
	for range 1000 {
		n := r.IntN(9)
		l := words(r, n+r.IntN(10))
		kept := slices.Clone(l)
		order, draws, e := Take(tape.New(l), n)
		there := r.Perm(n)
		aimed, e2 := Aim(l, there)
		if e != e2 {
			t.Fatal(l, n, e, e2)
		}
		if e != api.OK {
			if aimed != nil {
				t.Fatal("with an error", aimed)
			}
			continue
		}
		got, after, _ := Take(tape.New(aimed), n)
		if !slices.Equal(got, there) {
			t.Fatal("another order", l, there, got)
		}
		for i, d := range after {
			if d.Rank != draws[i].Rank || d.Used != draws[i].Used {
				t.Fatal("another rank, or another number of words", l, there, i)
			}
		}
		if back, e := Aim(aimed, order); e != api.OK || !slices.Equal(back, l) {
			t.Fatal("not back", l, there)
		}
		clear(aimed)
		if !slices.Equal(l, kept) {
			t.Fatal("the argument was changed")
		}
	}
	if got, e := Aim(nil, []int{1, 1}); got != nil || e != api.ErrDomain {
		t.Error("no order", got, e)
	}
	if got, e := Aim(nil, []int{1, 0}); got != nil || e != api.ErrExhausted {
		t.Error("no words", got, e)
	}
	long := make([]int, 257)
	for i := range long {
		long[i] = i
	}
	if got, e := Aim(nil, long); got != nil || e != api.ErrOver {
		t.Error("too many items", got, e)
	}
	if got, e := Aim([]uint64{5, 6}, nil); !slices.Equal(got, []uint64{5, 6}) || e != api.OK {
		t.Error("no items", got, e)
	}
}
