package sampler

import (
	"math"
	"math/rand/v2"
	"slices"
	"testing"

	"astragal/alias"
	"astragal/api"
	"astragal/gens"
	"astragal/lemire"
	"astragal/mask"
	"astragal/reservoir"
	"astragal/shuffle"
	"astragal/subset"
	"astragal/tape"
)

func words(r *rand.Rand, n int) []uint64 {
	l := make([]uint64, n)
	for i := range l {
		l[i] = r.Uint64()
		switch r.IntN(4) {
		case 0:
			l[i] = uint64(r.IntN(2)) // rarely accepted by multiplication
		case 1:
			l[i] = 1<<64 - 1 // rarely accepted by the lowest bits
		}
	}
	return l
}

func ask(r *rand.Rand) Ask {
	a := Ask{Kind: 1 + r.IntN(6)}
	switch a.Kind {
	case Below, Masked:
		a.Words = []uint64{1 + r.Uint64()>>r.IntN(64)}
		if a.Words[0] == 0 {
			a.Words[0] = 1
		}
	case Weighted:
		a.Words = make([]uint64, 1+r.IntN(6))
		for i := range a.Words {
			a.Words[i] = r.Uint64N(9)
		}
		a.Words[0]++
	default:
		a.N = r.IntN(9)
		a.K = r.IntN(a.N + 1)
	}
	return a
}

func toWords(l []int) []uint64 {
	var out []uint64
	for _, x := range l {
		out = append(out, uint64(x))
	}
	return out
}

// do meets a request by the package of its kind.
func do(t *tape.Tape, a Ask) ([]uint64, api.Errno) {
	var out []int
	var d api.Draw
	e, n := api.OK, 0
	switch a.Kind {
	case Below:
		d, e = lemire.Take(t, a.Words[0])
		return []uint64{d.N}, e
	case Masked:
		d, e = mask.Take(t, a.Words[0])
		return []uint64{d.N}, e
	case Order:
		out, _, e = shuffle.Take(t, a.N)
	case Some:
		out, _, e = subset.Take(t, a.N, a.K)
	case Stream:
		out, _, e = reservoir.Take(t, a.N, a.K)
	case Weighted:
		table, _ := alias.Build(a.Words)
		n, _, e = alias.Take(t, table)
		return []uint64{uint64(n)}, e
	}
	return toWords(out), e
}

// P46.1
func TestCheck(t *testing.T) {
	for _, c := range []struct {
		a    Ask
		want api.Errno
	}{
		{Ask{}, api.ErrKind}, {Ask{Kind: 7}, api.ErrKind}, {Ask{Kind: -1}, api.ErrKind}, {Ask{Kind: math.MinInt}, api.ErrKind}, {Ask{Kind: math.MaxInt}, api.ErrKind},
		{Ask{Kind: Below}, api.ErrArg}, {Ask{Kind: Below, Words: []uint64{0, 0}}, api.ErrArg}, {Ask{Kind: Below, Words: []uint64{0}}, api.ErrZero},
		{Ask{Kind: Masked}, api.ErrArg}, {Ask{Kind: Masked, Words: []uint64{1, 2}}, api.ErrArg}, {Ask{Kind: Masked, Words: []uint64{0}}, api.ErrZero},
		{Ask{Kind: Order, N: -1}, api.ErrArg}, {Ask{Kind: Order, N: 257}, api.ErrOver}, {Ask{Kind: Order, N: math.MinInt}, api.ErrArg}, {Ask{Kind: Order, N: math.MaxInt}, api.ErrOver},
		{Ask{Kind: Order, N: 5, K: 9}, api.OK}, {Ask{Kind: Order, N: 5, K: -9, Words: []uint64{1}}, api.OK},
		{Ask{Kind: Some, N: -1}, api.ErrArg}, {Ask{Kind: Some, N: 3, K: 4}, api.ErrArg}, {Ask{Kind: Some, N: 3, K: -1}, api.ErrArg}, {Ask{Kind: Some, N: 300, K: 301}, api.ErrArg}, {Ask{Kind: Some, N: 257, K: 1}, api.ErrOver},
		{Ask{Kind: Stream, N: -1}, api.ErrArg}, {Ask{Kind: Stream, N: 3, K: 4}, api.ErrArg}, {Ask{Kind: Stream, N: 3, K: -1}, api.ErrArg}, {Ask{Kind: Stream, N: 300, K: 301}, api.ErrArg}, {Ask{Kind: Stream, N: 257, K: 1}, api.ErrOver},
		{Ask{Kind: Weighted}, api.ErrArg}, {Ask{Kind: Weighted, Words: make([]uint64, 257)}, api.ErrArg}, {Ask{Kind: Weighted, Words: []uint64{1<<32 + 1}}, api.ErrOver}, {Ask{Kind: Weighted, Words: []uint64{0, 0}}, api.ErrZero},
		{Ask{Kind: Weighted, Words: []uint64{0, 1}, N: -5}, api.OK}, {Ask{Kind: Below, Words: []uint64{1}, N: -1, K: -1}, api.OK},
	} {
		if e := Check(c.a); e != c.want {
			t.Error(c.a.Kind, c.a.N, c.a.K, e)
		}
		if c.want == api.OK {
			continue
		}
		if Limits(c.a) != nil || Draws(c.a) != 0 || Rejected([]uint64{0, 0, 1<<64 - 1}, c.a) != 0 {
			t.Error("Limits, Draws, Rejected", c.a.Kind)
		}
		p := tape.New([]uint64{5})
		if out, used, e := Do(p, c.a); out != nil || used != 0 || e != c.want || p.Used() != 0 {
			t.Error("Do", c.a.Kind, out, used, e)
		}
	}
}

// P46.1
func TestLimits(t *testing.T) {
	for _, c := range []struct {
		a    Ask
		want []uint64
	}{
		{Ask{Kind: Below, Words: []uint64{9}}, []uint64{9}},
		{Ask{Kind: Masked, Words: []uint64{1<<64 - 1}}, []uint64{1<<64 - 1}},
		{Ask{Kind: Order, N: 5}, []uint64{5, 4, 3, 2}},
		{Ask{Kind: Order, N: 1}, nil},
		{Ask{Kind: Order}, nil},
		{Ask{Kind: Some, N: 5, K: 3}, []uint64{5, 4, 3}},
		{Ask{Kind: Some, N: 2, K: 2}, []uint64{2, 1}},
		{Ask{Kind: Some, N: 2}, nil},
		{Ask{Kind: Stream, N: 5, K: 3}, []uint64{4, 5}},
		{Ask{Kind: Stream, N: 2}, []uint64{1, 2}},
		{Ask{Kind: Stream, N: 2, K: 2}, nil},
		{Ask{Kind: Weighted, Words: []uint64{1, 0, 5}}, []uint64{3, 6}},
	} {
		if got := Limits(c.a); !slices.Equal(got, c.want) || Draws(c.a) != len(c.want) {
			t.Error(c.a, got, Draws(c.a))
		}
	}
	if Draws(Ask{Kind: Order, N: 3}) != 2 {
		t.Error("the chapter's example")
	}
	a := Ask{Kind: Below, Words: []uint64{9}}
	if Limits(a)[0] = 7; a.Words[0] != 9 {
		t.Error("shares memory with the argument")
	}
}

// P46.2
func TestDo(t *testing.T) {
	r := rand.New(rand.NewPCG(46, 1))
	for range 3000 {
		a, l := ask(r), words(r, r.IntN(14))
		p, q := tape.New(l), tape.New(l)
		for range r.IntN(3) {
			p.Next()
			q.Next()
		}
		before := p.Used()
		out, used, e := Do(p, a)
		want, wantE := do(q, a)
		if wantE != api.OK {
			want = nil
		}
		if e != wantE || !slices.Equal(out, want) || used != q.Used()-before || p.Used() != q.Used() || e != api.OK && out != nil {
			t.Fatal(a, l, out, used, e, want, wantE)
		}
	}
	if out, used, e := Do(nil, Ask{Kind: Below, Words: []uint64{5}}); out != nil || used != 0 || e != api.ErrNil {
		t.Error("no tape", out, used, e)
	}
	if out, used, e := Do(nil, Ask{Kind: Order, N: 1}); !slices.Equal(out, []uint64{0}) || used != 0 || e != api.OK {
		t.Error("nothing to be drawn", out, used, e)
	}
}

// P46.2, P46.4, G5
func TestFed(t *testing.T) {
	r := rand.New(rand.NewPCG(46, 2))
	for range 500 {
		a := ask(r)
		s, _ := gens.New(1+r.IntN(api.LastGen), r.Uint64())
		most := r.IntN(12)
		l, _, _ := gens.Words(s, most)
		out, used, e := Fed(s, most, a)
		want, wantUsed, wantE := Do(tape.New(l), a)
		if e != wantE || used != wantUsed || !slices.Equal(out, want) {
			t.Fatal(a, s, most, out, used, e)
		}
	}
	if out, used, e := Fed(api.State{Kind: api.XoshP}, 9, Ask{}); out != nil || used != 0 || e != api.ErrSeed {
		t.Error("the error of tape.Fed comes first", out, used, e)
	}
	s, _ := gens.New(api.Split, 1)
	if out, used, e := Fed(s, 9, Ask{}); out != nil || used != 0 || e != api.ErrKind {
		t.Error("then that of Check", out, used, e)
	}
}

// P46.3, P46.5, G4
func TestRejected(t *testing.T) {
	r := rand.New(rand.NewPCG(46, 3))
	exhausted := 0
	for range 5000 {
		a := ask(r)
		rounds := 1 + r.IntN(3)
		l := words(r, r.IntN(12))
		if r.IntN(2) == 0 {
			l = words(r, Draws(a)*rounds)
		}
		// Draw by draw: how many words each one rejects.
		want, at := 0, 0
		accepts := lemire.Takes
		if a.Kind == Masked {
			accepts = mask.Takes
		}
	draws:
		for _, n := range Limits(a) {
			for rejected := 0; ; rejected++ {
				want = max(want, rejected)
				if at == len(l) {
					break draws
				}
				at++
				if accepts(l[at-1], n) {
					break
				}
			}
		}
		got := Rejected(l, a)
		if got != want {
			t.Fatal("Rejected", a, l, got, want)
		}
		if _, _, e := Do(tape.New(l), a); e == api.ErrExhausted && len(l) == Draws(a)*rounds {
			exhausted++
			if got < rounds {
				t.Fatal("exhausted too soon", a, l, got)
			}
		}
	}
	if exhausted < 50 {
		t.Error("few tapes were exhausted", exhausted)
	}
	if Rejected(nil, Ask{Kind: Below, Words: []uint64{3}}) != 0 {
		t.Error("no words")
	}
}
