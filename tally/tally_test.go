package tally

import (
	"math"
	"math/bits"
	"slices"
	"testing"

	"astragal/api"
)

func allEqual(l []uint64) bool { return len(slices.Compact(slices.Clone(l))) <= 1 }

// P51.1, P51.5, G4
func TestWords(t *testing.T) {
	if counts, lost, e := Lemire(3, 3); !slices.Equal(counts, []uint64{2, 2, 2}) || lost != 2 || e != api.OK {
		t.Error("the chapter's example", counts, lost, e)
	}
	for w := 1; w <= 12; w++ {
		all := uint64(1) << w
		for n := uint64(1); n <= all; n += 1 + n/40 {
			counts, lost, e := Lemire(w, n)
			want, rejected := make([]uint64, n), uint64(0)
			for x := range all {
				if x*n%all >= all%n {
					want[x*n/all]++
				} else {
					rejected++
				}
			}
			if e != api.OK || !slices.Equal(counts, want) || lost != rejected || lost != all%n || !allEqual(counts) || 2*lost > all {
				t.Fatal("Lemire", w, n, counts, lost, e)
			}
			counts, lost, e = Mask(w, n)
			each := all >> bits.Len64(n-1)
			if e != api.OK || len(counts) != int(n) || counts[0] != each || !allEqual(counts) || lost != all-n*each || 2*lost > all {
				t.Fatal("Mask", w, n, counts, lost, e)
			}
		}
	}
	for _, c := range []struct {
		w    int
		n    uint64
		want api.Errno
	}{
		{0, 0, api.ErrArg}, {13, 0, api.ErrArg}, {-1, 1, api.ErrArg}, {math.MinInt, 1, api.ErrArg}, {math.MaxInt, 1, api.ErrArg},
		{3, 0, api.ErrZero}, {3, 9, api.ErrOver}, {12, 4097, api.ErrOver}, {1, 1<<64 - 1, api.ErrOver}, {3, 8, api.OK}, {12, 4096, api.OK},
	} {
		if counts, lost, e := Lemire(c.w, c.n); e != c.want || e != api.OK && (counts != nil || lost != 0) {
			t.Error("Lemire", c, e)
		}
		if counts, lost, e := Mask(c.w, c.n); e != c.want || e != api.OK && (counts != nil || lost != 0) {
			t.Error("Mask", c, e)
		}
	}
}

// P51.2, P51.5, G2
func TestOdd(t *testing.T) {
	for w := 1; w <= 6; w++ {
		for hash := 1; hash <= w; hash++ {
			for x := range uint64(1) << w {
				for y := range uint64(1) << w {
					got, e := Odd(w, hash, x, y)
					if x == y {
						if got != 0 || e != api.ErrSame {
							t.Fatal("equal keys", w, hash, x, got, e)
						}
						continue
					}
					want := uint64(0)
					for a := uint64(1); a < 1<<w; a += 2 {
						if a*x%(1<<w)>>(w-hash) == a*y%(1<<w)>>(w-hash) {
							want++
						}
					}
					if got != want || e != api.OK || got > 1<<(w-hash) {
						t.Fatal("Odd", w, hash, x, y, got, want, e)
					}
				}
			}
		}
	}
	if got, e := Odd(12, 5, 7, 4095); got > 1<<7 || e != api.OK {
		t.Error("12 bits", got, e)
	}
}

// P51.2
func TestErrorsOfKeys(t *testing.T) {
	for _, c := range []struct {
		w, bits int
		x, y    uint64
		odd     api.Errno
		add     api.Errno
	}{
		{0, 1, 9, 9, api.ErrArg, api.ErrArg}, {-1, 1, 0, 1, api.ErrArg, api.ErrArg}, {13, 1, 0, 1, api.ErrArg, api.ErrArg}, {4, 1, 0, 1, api.OK, api.ErrArg},
		{3, 0, 9, 9, api.ErrArg, api.ErrArg}, {3, 4, 9, 9, api.ErrArg, api.ErrArg}, {3, math.MaxInt, 0, 1, api.ErrArg, api.ErrArg}, {math.MinInt, math.MinInt, 0, 1, api.ErrArg, api.ErrArg},
		{3, 3, 8, 8, api.ErrDomain, api.ErrDomain}, {3, 3, 1, 8, api.ErrDomain, api.ErrDomain}, {3, 3, 1<<64 - 1, 1, api.ErrDomain, api.ErrDomain},
		{3, 3, 7, 7, api.ErrSame, api.ErrSame}, {3, 3, 7, 6, api.OK, api.OK},
	} {
		if got, e := Odd(c.w, c.bits, c.x, c.y); e != c.odd || e != api.OK && got != 0 {
			t.Error("Odd", c, got, e)
		}
		if got, e := Add(c.w, c.bits, c.x, c.y); e != c.add || e != api.OK && got != nil {
			t.Error("Add", c, got, e)
		}
	}
}

// P51.2, P51.5, G2
func TestAdd(t *testing.T) {
	for w := 1; w <= 3; w++ {
		for hash := 1; hash <= w; hash++ {
			width := w + hash - 1
			all := uint64(1) << width
			for x := range uint64(1) << w {
				for y := range x {
					want := make([]uint64, 1<<(2*hash))
					for a := range all {
						for b := range all {
							u, v := (a*x+b)%all>>(width-hash), (a*y+b)%all>>(width-hash)
							want[u<<hash|v]++
						}
					}
					got, e := Add(w, hash, x, y)
					if e != api.OK || !slices.Equal(got, want) || !allEqual(got) {
						t.Fatal(w, hash, x, y, got, e)
					}
					// In the other order of keys, the pairs are in the other order.
					turned, _ := Add(w, hash, y, x)
					for u := range 1 << hash {
						for v := range 1 << hash {
							if turned[v<<hash|u] != want[u<<hash|v] {
								t.Fatal("turned", w, hash, x, y)
							}
						}
					}
				}
			}
		}
	}
}

// P51.3, P51.5, G2
func TestPoly(t *testing.T) {
	for _, p := range []uint64{2, 3, 5, 7} {
		for k := 1; k <= 4; k++ {
			for n := 1; n <= k; n++ {
				var xs []uint64
				for i := range n {
					xs = append(xs, (uint64(i)*2+1)%p)
				}
				got, e := Poly(p, k, xs)
				if uint64(n) > p {
					if got != nil || e != api.ErrSame {
						t.Error("more keys than there are", p, k, n, e)
					}
					continue
				}
				if p == 2 && n == 2 {
					// 1 and 3 are the same modulo 2.
					if e != api.ErrSame {
						t.Error(p, k, n, e)
					}
					xs = []uint64{1, 0}
					got, e = Poly(p, k, xs)
				}
				size, each := uint64(1), uint64(1)
				for range n {
					size *= p
				}
				for range k - n {
					each *= p
				}
				if e != api.OK || uint64(len(got)) != size || got[0] != each || !allEqual(got) {
					t.Error(p, k, xs, got, e)
				}
			}
		}
	}
	for _, c := range []struct {
		p    uint64
		k    int
		xs   []uint64
		want api.Errno
	}{
		{0, 1, []uint64{9}, api.ErrArg}, {1, 1, []uint64{0}, api.ErrArg}, {4, 1, []uint64{0}, api.ErrArg}, {11, 1, []uint64{0}, api.ErrArg}, {1<<64 - 1, 1, []uint64{0}, api.ErrArg},
		{5, 0, []uint64{0}, api.ErrArg}, {5, 5, []uint64{0}, api.ErrArg}, {5, math.MinInt, []uint64{0}, api.ErrArg}, {5, 2, nil, api.ErrArg}, {5, 2, []uint64{9, 9, 9}, api.ErrArg},
		{5, 2, []uint64{5, 5}, api.ErrDomain}, {5, 2, []uint64{1, 5}, api.ErrDomain}, {5, 2, []uint64{1, 1}, api.ErrSame}, {5, 3, []uint64{1, 2, 1}, api.ErrSame},
		{5, 2, []uint64{4, 0}, api.OK},
	} {
		if got, e := Poly(c.p, c.k, c.xs); e != c.want || e != api.OK && got != nil {
			t.Error(c, got, e)
		}
	}
}

// P51.4, P51.5, G4
func TestOrders(t *testing.T) {
	for n, want := range []int{1, 1, 2, 6, 24, 120, 720} {
		got, e := Orders(n)
		if e != api.OK || !slices.Equal(got, slices.Repeat([]uint64{1}, want)) {
			t.Error(n, len(got), e)
		}
	}
	for _, n := range []int{-1, 7, math.MinInt, math.MaxInt} {
		if got, e := Orders(n); got != nil || e != api.ErrArg {
			t.Error(n, got, e)
		}
	}
}

// P51.4, P51.5, G4
func TestSlots(t *testing.T) {
	if sets, counts, e := Slots(4, 2); !slices.Equal(sets, []uint64{3, 5, 9, 6, 10, 12}) || !slices.Equal(counts, []uint64{2, 2, 2, 2, 2, 2}) || e != api.OK {
		t.Error("two of four", sets, counts, e)
	}
	factorial := func(n int) uint64 {
		p := uint64(1)
		for i := 2; i <= n; i++ {
			p *= uint64(i)
		}
		return p
	}
	for n := range 7 {
		for k := range n + 1 {
			sets, counts, e := Slots(n, k)
			if e != api.OK || len(sets) != len(counts) || uint64(len(sets)) != factorial(n)/factorial(k)/factorial(n-k) || !allEqual(counts) || counts[0] != factorial(n-k) {
				t.Error(n, k, sets, counts, e)
			}
			var items [][]int
			for _, s := range sets {
				var l []int
				for i := range n {
					if s>>i&1 == 1 {
						l = append(l, i)
					}
				}
				if len(l) != k || s>>n != 0 {
					t.Error("no set", n, k, s)
				}
				items = append(items, l)
			}
			if !slices.IsSortedFunc(items, slices.Compare) {
				t.Error("not in lexicographic order", n, k, items)
			}
		}
	}
	for _, c := range [][2]int{{-1, 0}, {7, 3}, {3, -1}, {3, 4}, {math.MinInt, math.MinInt}, {math.MaxInt, 1}} {
		if sets, counts, e := Slots(c[0], c[1]); sets != nil || counts != nil || e != api.ErrArg {
			t.Error(c, sets, counts, e)
		}
	}
}

// P51.3 with P5: a range may be left, and repeated.
func TestListsOneByOne(t *testing.T) {
	all := lists([]int{2, 3})
	for range 2 {
		n := 0
		for range all {
			if n++; n == 4 {
				break
			}
		}
		if n != 4 {
			t.Error(n)
		}
	}
	var got [][]int
	for l := range all {
		got = append(got, l)
	}
	if !slices.EqualFunc(got, [][]int{{0, 0}, {0, 1}, {0, 2}, {1, 0}, {1, 1}, {1, 2}}, slices.Equal) {
		t.Error(got)
	}
}
