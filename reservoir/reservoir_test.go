package reservoir

import (
	"math"
	"math/rand/v2"
	"slices"
	"testing"

	"astragal/api"
	"astragal/lemire"
	"astragal/shuffle"
	"astragal/subset"
	"astragal/tape"
)

// lists calls f with all lists of numbers below the limits.
func lists(limits []int, f func([]int)) {
	var grow func(l []int)
	grow = func(l []int) {
		if len(l) == len(limits) {
			f(l)
			return
		}
		for x := range limits[len(l)] {
			grow(append(slices.Clone(l), x))
		}
	}
	grow(nil)
}

// allDecisions calls f with all lists of decisions.
func allDecisions(n, k int, f func(d []int)) {
	var limits []int
	for i := k; i < n; i++ {
		limits = append(limits, i+1)
	}
	lists(limits, f)
}

func words(r *rand.Rand, n int) []uint64 {
	l := make([]uint64, n)
	for i := range l {
		l[i] = r.Uint64()
		if r.IntN(4) == 0 {
			l[i] = uint64(r.IntN(2)) // rarely accepted
		}
	}
	return l
}

// slotsOf and orderOf are the definitions of the chapter.
func slotsOf(k int, d []int) []int {
	var slots []int
	for i := range k {
		slots = append(slots, i)
	}
	for i, x := range d {
		if x < k {
			slots[x] = k + i
		}
	}
	return slots
}

func orderOf(first []int, d []int) []int {
	row := slices.Clone(first)
	for i, x := range d {
		item := len(first) + i
		if x == item {
			row = append(row, item)
		} else {
			row = append(row, row[x])
			row[x] = item
		}
	}
	return row
}

// P42.1, P42.2, P42.5
func TestSlotsOrderUndo(t *testing.T) {
	for n := range 7 {
		for k := range n + 1 {
			if Check(n, k) != api.OK {
				t.Fatal("Check", n, k)
			}
			var first []int
			for i := range k {
				first = append(first, i)
			}
			var seen [][]int
			allDecisions(n, k, func(d []int) {
				slots, e := Slots(n, k, d)
				if e != api.OK || !slices.Equal(slots, slotsOf(k, d)) {
					t.Fatal("Slots", n, k, d, slots, e)
				}
				order, e := Order(n, k, d)
				if e != api.OK || !slices.Equal(order, orderOf(first, d)) || !shuffle.Is(order) || !slices.Equal(order[:k], slots) {
					t.Fatal("Order", n, k, d, order, e)
				}
				back, begin, e := Undo(n, k, order)
				if e != api.OK || !slices.Equal(back, d) || !slices.Equal(begin, first) {
					t.Fatal("Undo", n, k, order, back, begin, e)
				}
				seen = append(seen, order)
			})
			slices.SortFunc(seen, slices.Compare)
			if len(slices.CompactFunc(seen, slices.Equal)) != len(seen) {
				t.Error("an order is reached twice", n, k)
			}
		}
	}
	if l, _ := Slots(3, 1, []int{0, 2}); !slices.Equal(l, []int{1}) {
		t.Error("the chapter's example", l)
	}
}

// P42.2: every order results from some decisions, and some order at the beginning.
func TestUndoOfAnyOrder(t *testing.T) {
	r := rand.New(rand.NewPCG(42, 1))
	for range 1000 {
		n := r.IntN(12)
		k := r.IntN(n + 1)
		p := r.Perm(n)
		kept := slices.Clone(p)
		d, first, e := Undo(n, k, p)
		if e != api.OK || !shuffle.Is(first) || len(first) != k || !slices.Equal(orderOf(first, d), p) {
			t.Fatal(n, k, p, d, first, e)
		}
		_ = append(first, 99)
		clear(first)
		clear(d)
		if !slices.Equal(p, kept) {
			t.Fatal("the argument was changed")
		}
	}
}

// P42.1, P42.2
func TestErrors(t *testing.T) {
	for _, c := range []struct {
		n, k int
		d    []int
		want api.Errno
	}{
		{-1, 0, nil, api.ErrArg}, {3, -1, nil, api.ErrArg}, {3, 4, nil, api.ErrArg}, {300, 301, nil, api.ErrArg}, {math.MinInt, 0, nil, api.ErrArg},
		{257, 5, nil, api.ErrOver}, {math.MaxInt, 0, nil, api.ErrOver},
		{3, 1, nil, api.ErrDomain}, {3, 1, []int{0}, api.ErrDomain}, {3, 1, []int{0, 0, 0}, api.ErrDomain},
		{3, 1, []int{2, 0}, api.ErrDomain}, {3, 1, []int{0, 3}, api.ErrDomain}, {3, 1, []int{-1, 0}, api.ErrDomain}, {3, 3, []int{0}, api.ErrDomain},
		{3, 1, []int{1, 2}, api.OK}, {0, 0, nil, api.OK}, {256, 256, nil, api.OK},
	} {
		if l, e := Slots(c.n, c.k, c.d); e != c.want || e != api.OK && l != nil {
			t.Error("Slots", c, l, e)
		}
		if l, e := Order(c.n, c.k, c.d); e != c.want || e != api.OK && l != nil {
			t.Error("Order", c, l, e)
		}
		if c.want == api.ErrArg || c.want == api.ErrOver {
			if e := Check(c.n, c.k); e != c.want {
				t.Error("Check", c, e)
			}
			if d, first, e := Undo(c.n, c.k, []int{5}); d != nil || first != nil || e != c.want {
				t.Error("Undo", c, e)
			}
			if l, draws, e := Take(nil, c.n, c.k); l != nil || draws != nil || e != c.want {
				t.Error("Take", c, e)
			}
		}
		if c.want != api.OK {
			if l, e := Turn(c.n, c.k, c.d, []int{7}); l != nil || e != c.want {
				t.Error("Turn", c, l, e)
			}
		}
	}
	for _, p := range [][]int{nil, {0, 1}, {0, 1, 1}, {0, 1, 3}, {0, 1, 2, 3}} {
		if d, first, e := Undo(3, 1, p); d != nil || first != nil || e != api.ErrDomain {
			t.Error("Undo", p, d, first, e)
		}
		if l, e := Turn(3, 1, []int{1, 2}, p); l != nil || e != api.ErrDomain {
			t.Error("Turn", p, l, e)
		}
	}
}

// P42.3
func TestTake(t *testing.T) {
	r := rand.New(rand.NewPCG(42, 2))
	for range 500 {
		n := r.IntN(10)
		k := r.IntN(n + 1)
		l := words(r, r.IntN(12))
		p, q := tape.New(l), tape.New(l)
		slots, draws, e := Take(p, n, k)
		var d []int
		var want []api.Draw
		failed := api.OK
		for i := k; i < n && failed == api.OK; i++ {
			var x api.Draw
			x, failed = lemire.Take(q, uint64(i+1))
			d, want = append(d, int(x.N)), append(want, x)
		}
		if p.Used() != q.Used() || e != failed {
			t.Fatal(n, k, l, e, failed)
		}
		if e != api.OK {
			if slots != nil || draws != nil {
				t.Fatal("with an error", slots, draws)
			}
			continue
		}
		if !slices.Equal(slots, slotsOf(k, d)) || !slices.Equal(draws, want) {
			t.Fatal(n, k, l, slots, draws)
		}
	}
	if l, draws, e := Take(nil, 5, 5); !slices.Equal(l, []int{0, 1, 2, 3, 4}) || len(draws) != 0 || e != api.OK {
		t.Error("nothing to be drawn", l, e)
	}
	if l, draws, e := Take(nil, 5, 4); l != nil || draws != nil || e != api.ErrNil {
		t.Error("no tape", l, e)
	}
	if l, draws, e := Take(tape.New(words(r, 3000)), 256, 0); len(l) != 0 || len(draws) != 256 || e != api.OK {
		t.Error("no slots", l, len(draws), e)
	}
}

// P42.3
func TestTurn(t *testing.T) {
	for n := range 6 {
		for k := range n + 1 {
			var moves [][]int
			lists(slices.Repeat([]int{n}, n), func(l []int) {
				if shuffle.Is(l) && len(moves) < 200 {
					moves = append(moves, slices.Clone(l))
				}
			})
			allDecisions(n, k, func(d []int) {
				for _, move := range moves {
					order, _ := Order(n, k, d)
					want, first, _ := Undo(n, k, shuffle.Then(move, order))
					for i, x := range want {
						if x < k {
							want[i] = first[x]
						}
					}
					got, e := Turn(n, k, d, move)
					if e != api.OK || !slices.Equal(got, want) {
						t.Fatal("Turn", n, k, d, move, got, e)
					}
					// The set of the slots is moved.
					slots, turned := slotsOf(k, d), slotsOf(k, got)
					for i, x := range slots {
						slots[i] = move[x]
					}
					if !slices.Equal(subset.Set(slots), subset.Set(turned)) {
						t.Fatal("another set", n, k, d, move, got)
					}
				}
			})
		}
	}
}

// P42.3, P42.4, G4
func TestAimSet(t *testing.T) {
	r := rand.New(rand.NewPCG(42, 3))
	for range 1500 {
		n := r.IntN(10)
		k := r.IntN(n + 1)
		l := words(r, n-k+r.IntN(8))
		kept := slices.Clone(l)
		slots, draws, e := Take(tape.New(l), n, k)
		set := subset.Set(r.Perm(n)[:k])
		aimed, e2 := AimSet(l, n, set)
		if e != e2 {
			t.Fatal(n, k, e, e2)
		}
		if e != api.OK {
			if aimed != nil {
				t.Fatal("with an error", aimed)
			}
			continue
		}
		got, after, _ := Take(tape.New(aimed), n, k)
		if !slices.Equal(subset.Set(got), set) {
			t.Fatal("another set", l, set, got)
		}
		for i, d := range after {
			if d.Rank != draws[i].Rank || d.Used != draws[i].Used {
				t.Fatal("another rank, or another number of words", l, set, i)
			}
		}
		if back, e := AimSet(aimed, n, subset.Set(slots)); e != api.OK || !slices.Equal(back, l) {
			t.Fatal("not back", l, set)
		}
		clear(aimed)
		if !slices.Equal(l, kept) {
			t.Fatal("the argument was changed")
		}
	}
	for _, c := range []struct {
		n    int
		set  []int
		want api.Errno
	}{
		{-1, nil, api.ErrArg}, {1, []int{0, 1}, api.ErrArg}, {257, nil, api.ErrOver}, {257, []int{5, 5}, api.ErrOver},
		{3, []int{1, 0}, api.ErrDomain}, {3, []int{0, 0}, api.ErrDomain}, {3, []int{3}, api.ErrDomain}, {3, []int{-1}, api.ErrDomain},
		{3, []int{1}, api.ErrExhausted}, {3, []int{0, 1, 2}, api.OK}, {0, nil, api.OK},
	} {
		if got, e := AimSet(nil, c.n, c.set); len(got) > 0 || e != c.want {
			t.Error(c, got, e)
		}
	}
}
