package alias

import (
	"math"
	"math/rand/v2"
	"slices"
	"testing"

	"astragal/api"
	"astragal/lemire"
	"astragal/tape"
)

// build is the definition of the chapter.
func build(w []uint64) api.Table {
	n := uint64(len(w))
	t := api.Table{Below: make([]uint64, n), Alias: make([]int, n)}
	has, column := make([]uint64, n), make([]bool, n)
	for i, x := range w {
		t.Total += x
		has[i] = n * x
	}
	for {
		j := 0
		for j < len(w) && (column[j] || has[j] >= t.Total) {
			j++
		}
		if j == len(w) {
			break
		}
		g := 0
		for column[g] || has[g] <= t.Total {
			g++
		}
		t.Below[j], t.Alias[j], column[j] = has[j], g, true
		has[g] -= t.Total - has[j]
	}
	for i := range w {
		if !column[i] {
			t.Below[i], t.Alias[i] = t.Total, i
		}
	}
	return t
}

func same(a, b api.Table) bool {
	return a.Total == b.Total && slices.Equal(a.Below, b.Below) && slices.Equal(a.Alias, b.Alias)
}

func weights(r *rand.Rand) []uint64 {
	for {
		w := make([]uint64, 1+r.IntN(9))
		sum := uint64(0)
		for i := range w {
			w[i] = r.Uint64N(1 + 1<<r.IntN(6))
			if r.IntN(3) == 0 {
				w[i] = 0
			}
			sum += w[i]
		}
		if sum > 0 {
			return w
		}
	}
}

// anyTable is one that Check accepts, whether Build makes such or not.
func anyTable(r *rand.Rand) api.Table {
	n := 1 + r.IntN(5)
	t := api.Table{Total: 1 + r.Uint64N(12)}
	for range n {
		t.Below, t.Alias = append(t.Below, r.Uint64N(t.Total+1)), append(t.Alias, r.IntN(n))
	}
	return t
}

// P43.1, P43.5
func TestBuild(t *testing.T) {
	r := rand.New(rand.NewPCG(43, 1))
	for range 2000 {
		w := weights(r)
		table, e := Build(w)
		if e != api.OK || !same(table, build(w)) || Check(table) != api.OK {
			t.Fatal(w, table, e)
		}
		for j, x := range w {
			if got, e := Weight(table, j); got != x*uint64(len(w)) || e != api.OK {
				t.Fatal("Weight", w, j, got, e)
			}
		}
		if got, ok := Weights(table); !ok || !slices.Equal(got, w) {
			t.Fatal("Weights", w, got, ok)
		}
	}
	if table, _ := Build([]uint64{1, 3}); !same(table, api.Table{Total: 4, Below: []uint64{2, 4}, Alias: []int{1, 1}}) {
		t.Error("the chapter's example", table)
	}
	most := slices.Repeat([]uint64{1 << 32}, 256)
	most[7] = 0
	most[255] = 1
	if table, e := Build(most); e != api.OK || !same(table, build(most)) || Check(table) != api.OK {
		t.Error("the greatest weights", e)
	}
	full := slices.Repeat([]uint64{1 << 32}, 256)
	if table, e := Build(full); e != api.OK || table.Total != 1<<40 || Check(table) != api.OK {
		t.Error("the greatest Total", e)
	}
	for _, c := range []struct {
		w    []uint64
		want api.Errno
	}{
		{nil, api.ErrArg}, {make([]uint64, 257), api.ErrArg}, {slices.Repeat([]uint64{1 << 33}, 257), api.ErrArg},
		{[]uint64{0, 1<<32 + 1}, api.ErrOver}, {[]uint64{1<<64 - 1, 1}, api.ErrOver}, {[]uint64{0}, api.ErrZero}, {make([]uint64, 256), api.ErrZero},
		{[]uint64{1}, api.OK},
	} {
		if table, e := Build(c.w); e != c.want || e != api.OK && (table.Total != 0 || table.Below != nil || table.Alias != nil) {
			t.Error(len(c.w), table, e)
		}
	}
}

// P43.2
func TestCheck(t *testing.T) {
	for _, c := range []struct {
		t    api.Table
		want api.Errno
	}{
		{api.Table{}, api.ErrForm},
		{api.Table{Total: 5}, api.ErrForm},
		{api.Table{Below: []uint64{1}}, api.ErrForm},
		{api.Table{Alias: []int{0}, Total: 1}, api.ErrForm},
		{api.Table{Total: 5, Below: []uint64{1, 2}, Alias: []int{0}}, api.ErrForm},
		{api.Table{Total: 5, Below: make([]uint64, 257), Alias: make([]int, 257)}, api.ErrForm},
		{api.Table{Total: 5, Below: make([]uint64, 256), Alias: make([]int, 256)}, api.OK},
		{api.Table{Below: []uint64{1}, Alias: []int{9}}, api.ErrZero},
		{api.Table{Total: 1<<40 + 1, Below: []uint64{1}, Alias: []int{9}}, api.ErrOver},
		{api.Table{Total: 1 << 40, Below: []uint64{1 << 40}, Alias: []int{0}}, api.OK},
		{api.Table{Total: 5, Below: []uint64{1, 6}, Alias: []int{9, 9}}, api.ErrOver},
		{api.Table{Total: 5, Below: []uint64{1, 5}, Alias: []int{0, 2}}, api.ErrDomain},
		{api.Table{Total: 5, Below: []uint64{1, 5}, Alias: []int{-1, 0}}, api.ErrDomain},
		{api.Table{Total: 5, Below: []uint64{1, 5}, Alias: []int{1, 0}}, api.OK},
	} {
		if e := Check(c.t); e != c.want {
			t.Error(c.t, e)
		}
		if c.want == api.OK {
			continue
		}
		if j, e := Tell(c.t, 99, 99); j != 0 || e != c.want {
			t.Error("Tell", c.t, j, e)
		}
		if n, e := Weight(c.t, 99); n != 0 || e != c.want {
			t.Error("Weight", c.t, n, e)
		}
		if j, n, e := Rank(c.t, 99, 99); j != 0 || n != 0 || e != c.want {
			t.Error("Rank", c.t, j, n, e)
		}
		if x, y, e := Pair(c.t, 99, 99); x != 0 || y != 0 || e != c.want {
			t.Error("Pair", c.t, x, y, e)
		}
		if j, draws, e := Take(nil, c.t); j != 0 || draws != nil || e != c.want {
			t.Error("Take", c.t, j, draws, e)
		}
		if w, ok := Weights(c.t); w != nil || ok {
			t.Error("Weights", c.t, w)
		}
	}
}

// P43.2, P43.3, P43.5: by going through all pairs.
func TestAllPairs(t *testing.T) {
	r := rand.New(rand.NewPCG(43, 2))
	for i := range 600 {
		table := anyTable(r)
		if i%3 == 0 {
			table, _ = Build(weights(r))
		}
		n := len(table.Below)
		counts := make([]uint64, n)
		for c := range uint64(n) {
			for u := range table.Total {
				want := table.Alias[c]
				if u < table.Below[c] {
					want = int(c)
				}
				if j, e := Tell(table, c, u); j != want || e != api.OK {
					t.Fatal("Tell", table, c, u, j, e)
				}
				if j, rank, e := Rank(table, c, u); j != want || rank != counts[want] || e != api.OK {
					t.Fatal("Rank", table, c, u, j, rank, e)
				}
				if c2, u2, e := Pair(table, want, counts[want]); c2 != c || u2 != u || e != api.OK {
					t.Fatal("Pair", table, c, u, c2, u2, e)
				}
				counts[want]++
			}
		}
		divisible := true
		for j, count := range counts {
			if got, e := Weight(table, j); got != count || e != api.OK {
				t.Fatal("Weight", table, j, got, e)
			}
			if c, u, e := Pair(table, j, count); c != 0 || u != 0 || e != api.ErrDomain {
				t.Fatal("a rank that there is not", table, j, c, u, e)
			}
			divisible = divisible && count%uint64(n) == 0
		}
		w, ok := Weights(table)
		if ok != divisible || !ok && w != nil {
			t.Fatal("Weights", table, w, ok)
		}
		for j := range w {
			if w[j]*uint64(n) != counts[j] {
				t.Fatal("Weights", table, w)
			}
		}
	}
}

// P43.2, P43.3
func TestNoPairs(t *testing.T) {
	table, _ := Build([]uint64{1, 3})
	for _, c := range [][2]uint64{{2, 0}, {0, 4}, {1<<64 - 1, 0}, {0, 1<<64 - 1}, {1 << 63, 0}} {
		if j, e := Tell(table, c[0], c[1]); j != 0 || e != api.ErrDomain {
			t.Error("Tell", c, j, e)
		}
		if j, n, e := Rank(table, c[0], c[1]); j != 0 || n != 0 || e != api.ErrDomain {
			t.Error("Rank", c, j, n, e)
		}
	}
	for _, j := range []int{-1, 2, math.MinInt, math.MaxInt} {
		if n, e := Weight(table, j); n != 0 || e != api.ErrDomain {
			t.Error("Weight", j, n, e)
		}
		if x, y, e := Pair(table, j, 0); x != 0 || y != 0 || e != api.ErrDomain {
			t.Error("Pair", j, x, y, e)
		}
	}
	if x, y, e := Pair(table, 0, 1<<64-1); x != 0 || y != 0 || e != api.ErrDomain {
		t.Error("Pair", x, y, e)
	}
}

// P43.4, G4
func TestTake(t *testing.T) {
	r := rand.New(rand.NewPCG(43, 3))
	for range 1000 {
		table, _ := Build(weights(r))
		l := make([]uint64, r.IntN(6))
		for i := range l {
			l[i] = r.Uint64() >> (r.IntN(2) * 63)
		}
		p, q := tape.New(l), tape.New(l)
		j, draws, e := Take(p, table)
		first, e1 := lemire.Take(q, uint64(len(table.Below)))
		second, e2 := api.Draw{}, e1
		if e1 == api.OK {
			second, e2 = lemire.Take(q, table.Total)
		}
		if e != e2 || p.Used() != q.Used() {
			t.Fatal(table, l, e, e2)
		}
		if e != api.OK {
			if j != 0 || draws != nil {
				t.Fatal("with an error", j, draws)
			}
			continue
		}
		if want, _ := Tell(table, first.N, second.N); j != want || !slices.Equal(draws, []api.Draw{first, second}) {
			t.Fatal(table, l, j, draws)
		}
	}
	table, _ := Build([]uint64{1, 3})
	if j, draws, e := Take(nil, table); j != 0 || draws != nil || e != api.ErrNil {
		t.Error("no tape", j, draws, e)
	}
	// The document's fifth example: two pairs yield the first item, six the second one.
	counts := make([]int, 2)
	for c := range uint64(2) {
		for u := range uint64(4) {
			j, _ := Tell(table, c, u)
			counts[j]++
		}
	}
	if !slices.Equal(counts, []int{2, 6}) {
		t.Error("weights 1 and 3", counts)
	}
}
