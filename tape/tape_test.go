package tape

import (
	"math"
	"math/rand/v2"
	"slices"
	"testing"

	"astragal/api"
	"astragal/gens"
)

func list(r *rand.Rand, n int) []uint64 {
	l := make([]uint64, n)
	for i := range l {
		l[i] = r.Uint64()
	}
	return l
}

// takeAll takes words to the end, and checks what a tape tells on the way.
func takeAll(t *testing.T, p *Tape, want []uint64) {
	t.Helper()
	for i, w := range want {
		if p.Used() != i || p.Left() != len(want)-i || !slices.Equal(p.Taken(), want[:i]) {
			t.Fatal("before", i, p.Used(), p.Left())
		}
		if got, e := p.Next(); got != w || e != api.OK {
			t.Fatal("Next", i, got, e)
		}
	}
	for range 2 {
		if got, e := p.Next(); got != 0 || e != api.ErrExhausted {
			t.Fatal("at the end", got, e)
		}
		if p.Used() != len(want) || p.Left() != 0 || !slices.Equal(p.Taken(), want) {
			t.Fatal("at the end", p.Used(), p.Left())
		}
	}
}

// P37.1
func TestNew(t *testing.T) {
	r := rand.New(rand.NewPCG(37, 1))
	for n := range 20 {
		whole := list(r, n+1)
		l, kept := whole[:n], slices.Clone(whole)
		p := New(l)
		clear(whole)
		takeAll(t, p, kept[:n])
	}
	p := New([]uint64{7})
	if w, e := p.Next(); w != 7 || e != api.OK {
		t.Error("the chapter's example", w, e)
	}
	if w, e := p.Next(); w != 0 || e != api.ErrExhausted {
		t.Error("the chapter's example", w, e)
	}
	taken := p.Taken()
	taken[0] = 9
	if p.Taken()[0] != 7 {
		t.Error("what was taken is shared")
	}
}

// P37.1, P37.3
func TestFed(t *testing.T) {
	for kind := 1; kind <= api.LastGen; kind++ {
		s, _ := gens.New(kind, 77)
		for _, most := range []int{0, 1, 20} {
			p, e := Fed(s, most)
			if e != api.OK {
				t.Fatal(kind, e)
			}
			words, _, _ := gens.Words(s, most)
			takeAll(t, p, words)
		}
		for most, want := range map[int]int{-1: 0, math.MinInt: 0, 4096: 4096, 4097: 4096, math.MaxInt: 4096} {
			if p, e := Fed(s, most); e != api.OK || p.Left() != want {
				t.Error(kind, most, e)
			}
		}
	}
	s, _ := gens.New(api.XoshPP, 5)
	words, _, _ := gens.Words(s, 4096)
	p, _ := Fed(s, 5000)
	for i, w := range words {
		if got, e := p.Next(); got != w || e != api.OK {
			t.Fatal(i, got, e)
		}
	}
	if _, e := p.Next(); e != api.ErrExhausted {
		t.Error("at most 4,096", e)
	}
	for _, c := range []struct {
		s    api.State
		want api.Errno
	}{
		{api.State{}, api.ErrKind},
		{api.State{Kind: api.Split, W: [4]uint64{0, 1}}, api.ErrForm},
		{api.State{Kind: api.XoshP}, api.ErrSeed},
	} {
		if p, e := Fed(c.s, 9); p != nil || e != c.want {
			t.Error(c.s, p, e)
		}
	}
}

// P37.1
func TestClone(t *testing.T) {
	r := rand.New(rand.NewPCG(37, 2))
	s, _ := gens.New(api.Pcg32, 3)
	words, _, _ := gens.Words(s, 10)
	fed, _ := Fed(s, 10)
	l := list(r, 10)
	for i, p := range []*Tape{fed, New(l)} {
		want := [][]uint64{words, l}[i]
		for n := range 10 {
			c, d := p.Clone(), p.Clone()
			for j := n; j < 10; j++ {
				if w, e := c.Next(); w != want[j] || e != api.OK {
					t.Fatal("the clone", i, n, j, w, e)
				}
			}
			if !slices.Equal(c.Taken(), want) || p.Used() != n || d.Used() != n || d.Left() != 10-n {
				t.Fatal("not independent", i, n)
			}
			p.Next()
			if d.Used() != n || !slices.Equal(d.Taken(), want[:n]) {
				t.Fatal("not independent", i, n)
			}
		}
	}
}

// P37.1
func TestNotMade(t *testing.T) {
	for _, p := range []*Tape{nil, {}} {
		if p.Used() != 0 || p.Left() != 0 || p.Taken() != nil || p.Clone() != nil {
			t.Error(p)
		}
		if w, e := p.Next(); w != 0 || e != api.ErrNil {
			t.Error(w, e)
		}
	}
}

// P37.2
func TestPut(t *testing.T) {
	l := []uint64{1, 2, 3, 4}
	for at := -2; at < 6; at++ {
		got, e := Put(l[:3], at, 9)
		if at < 0 || at >= 3 {
			if got != nil || e != api.ErrDomain {
				t.Error(at, got, e)
			}
			continue
		}
		want := []uint64{1, 2, 3}
		want[at] = 9
		if e != api.OK || !slices.Equal(got, want) {
			t.Error(at, got, e)
		}
		_ = append(got, 77)
	}
	if !slices.Equal(l, []uint64{1, 2, 3, 4}) {
		t.Error("the argument was changed", l)
	}
	for _, at := range []int{math.MinInt, math.MaxInt} {
		if got, e := Put(l, at, 9); got != nil || e != api.ErrDomain {
			t.Error(at, got, e)
		}
	}
	if got, e := Put(nil, 0, 9); got != nil || e != api.ErrDomain {
		t.Error("nothing to be replaced", got, e)
	}
}
