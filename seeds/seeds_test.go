package seeds

import (
	"math"
	"math/rand/v2"
	"slices"
	"testing"

	"astragal/api"
	"astragal/family"
	"astragal/lemire"
	"astragal/poly"
	"astragal/tape"
)

var noKinds = []int{0, -1, 9, math.MinInt, math.MaxInt}

func words(r *rand.Rand, n int) []uint64 {
	l := make([]uint64, n)
	for i := range l {
		l[i] = r.Uint64()
		if r.IntN(3) == 0 {
			l[i] = uint64(r.IntN(2)) // rarely accepted below the prime
		}
	}
	return l
}

// shape is a number of bits and of words that a kind allows.
func shape(r *rand.Rand, kind int) (int, int) {
	least, most := family.Size(kind)
	bits := 1 + r.IntN(32)
	if kind == api.FamPoly || kind == api.FamString {
		bits = 61
	}
	return bits, least + r.IntN(min(most-least, 8)+1)
}

func zero(s api.Seed) bool { return s.Kind == 0 && s.Bits == 0 && s.Words == nil }

// P44.1
func TestLimit(t *testing.T) {
	for kind, want := range []uint64{0, poly.P, 2, 0, 0, 0, 0, 0, poly.P} {
		if kind == 0 {
			continue
		}
		if got, e := Limit(kind); got != want || e != api.OK {
			t.Error(kind, got, e)
		}
	}
	for _, kind := range noKinds {
		if got, e := Limit(kind); got != 0 || e != api.ErrKind {
			t.Error(kind, got, e)
		}
	}
}

// P44.1, P44.3
func TestCheck(t *testing.T) {
	for _, kind := range noKinds {
		if e := Check(kind, 0, 0); e != api.ErrKind {
			t.Error(kind, e)
		}
		if Whole(kind, 8, 1) != nil {
			t.Error("Whole", kind)
		}
	}
	for kind := 1; kind <= api.LastFam; kind++ {
		least, most := family.Size(kind)
		first, last := 1, 64
		switch kind {
		case api.FamPoly, api.FamString:
			first, last = 61, 61
		case api.FamAdd:
			last = 32
		}
		limit, _ := Limit(kind)
		for _, n := range []int{math.MinInt, -1, 0, least - 1, least, most, most + 1, math.MaxInt} {
			for _, bits := range []int{math.MinInt, -1, 0, first - 1, first, last, last + 1, math.MaxInt} {
				want := api.OK
				if n < least || n > most || bits < first || bits > last {
					want = api.ErrArg
				}
				if e := Check(kind, bits, n); e != want {
					t.Error(kind, bits, n, e)
				}
				whole := Whole(kind, bits, n)
				if want != api.OK && whole != nil || want == api.OK && !slices.Equal(whole, slices.Repeat([]uint64{limit}, n)) {
					t.Error("Whole", kind, bits, n, whole)
				}
				if s, draws, e := Take(nil, kind, bits, n); want != api.OK && (!zero(s) || draws != nil || e != want) {
					t.Error("Take", kind, bits, n, s, e)
				}
			}
		}
	}
}

// P44.2, P44.4
func TestTake(t *testing.T) {
	r := rand.New(rand.NewPCG(44, 1))
	for range 200 {
		for kind := 1; kind <= api.LastFam; kind++ {
			bits, n := shape(r, kind)
			l := words(r, n+r.IntN(n+4)-r.IntN(2))
			p, q := tape.New(l), tape.New(l)
			s, draws, e := Take(p, kind, bits, n)
			var want []api.Draw
			failed := api.OK
			for range n {
				var d api.Draw
				var w uint64
				switch kind {
				case api.FamPoly, api.FamString:
					d, failed = lemire.Take(q, poly.P)
				default:
					w, failed = q.Next()
					d = api.Draw{N: w, Used: 1}
					if kind == api.FamOdd {
						d = api.Draw{N: w | 1, Rank: w % 2, Used: 1}
					}
				}
				if failed != api.OK {
					break
				}
				want = append(want, d)
			}
			if e != failed || p.Used() != q.Used() {
				t.Fatal(kind, bits, n, e, failed)
			}
			if e != api.OK {
				if !zero(s) || draws != nil {
					t.Fatal("with an error", s, draws)
				}
				continue
			}
			if !slices.Equal(draws, want) || s.Kind != kind || s.Bits != bits || len(s.Words) != n || family.Check(s) != api.OK {
				t.Fatal(kind, bits, n, s, draws)
			}
			for i, d := range draws {
				if s.Words[i] != d.N {
					t.Fatal(kind, i, s, draws)
				}
			}
		}
	}
	s, draws, e := Take(tape.New([]uint64{6}), api.FamOdd, 8, 1)
	if e != api.OK || !slices.Equal(s.Words, []uint64{7}) || !slices.Equal(draws, []api.Draw{{N: 7, Rank: 0, Used: 1}}) {
		t.Error("the chapter's example", s, draws, e)
	}
	for kind := 1; kind <= api.LastFam; kind++ {
		bits, n := shape(r, kind)
		if s, draws, e := Take(nil, kind, bits, n); !zero(s) || draws != nil || e != api.ErrNil {
			t.Error("no tape", s, draws, e)
		}
	}
}

// P44.3, P44.4, G4
func TestAim(t *testing.T) {
	r := rand.New(rand.NewPCG(44, 2))
	for range 200 {
		for kind := 1; kind <= api.LastFam; kind++ {
			bits, n := shape(r, kind)
			l := words(r, 2*n+r.IntN(4))
			kept := slices.Clone(l)
			there, _, e := Take(tape.New(words(r, 20*n)), kind, bits, n)
			if e != api.OK {
				continue
			}
			s, draws, e := Take(tape.New(l), kind, bits, n)
			aimed, e2 := Aim(l, there)
			if e != e2 {
				t.Fatal(kind, e, e2)
			}
			if e != api.OK {
				if aimed != nil {
					t.Fatal("with an error", aimed)
				}
				continue
			}
			got, after, _ := Take(tape.New(aimed), kind, bits, n)
			if !slices.Equal(got.Words, there.Words) {
				t.Fatal("another seed", kind, there, got)
			}
			for i, d := range after {
				if d.Rank != draws[i].Rank || d.Used != draws[i].Used {
					t.Fatal("another rank, or another number of words", kind, i)
				}
			}
			if back, e := Aim(aimed, s); e != api.OK || !slices.Equal(back, l) {
				t.Fatal("not back", kind)
			}
			clear(aimed)
			if !slices.Equal(l, kept) {
				t.Fatal("the argument was changed")
			}
		}
	}
	for _, c := range []struct {
		s    api.Seed
		want api.Errno
	}{
		{api.Seed{}, api.ErrKind},
		{api.Seed{Kind: api.FamOdd, Bits: 8}, api.ErrSeed},
		{api.Seed{Kind: api.FamOdd, Bits: 0, Words: []uint64{2}}, api.ErrArg},
		{api.Seed{Kind: api.FamOdd, Bits: 8, Words: []uint64{2}}, api.ErrSeed},
		{api.Seed{Kind: api.FamString, Bits: 61, Words: []uint64{poly.P}}, api.ErrDomain},
		{api.Seed{Kind: api.FamOdd, Bits: 8, Words: []uint64{3}}, api.ErrExhausted},
	} {
		if got, e := Aim(nil, c.s); got != nil || e != c.want {
			t.Error(c.s, got, e)
		}
	}
}
