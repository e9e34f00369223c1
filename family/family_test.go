package family

import (
	"math"
	"math/rand/v2"
	"slices"
	"testing"

	"astragal/api"
	"astragal/load"
	"astragal/madd"
	"astragal/mixed"
	"astragal/mshift"
	"astragal/poly"
	"astragal/strpoly"
	"astragal/tabs"
	"astragal/through"
	"astragal/twist"
)

var noKinds = []int{0, -1, 9, math.MinInt, math.MaxInt}

// seed is a random one of a kind.
func seed(r *rand.Rand, kind int) api.Seed {
	least, most := Size(kind)
	s := api.Seed{Kind: kind, Bits: 1 + r.IntN(64), Words: make([]uint64, least+r.IntN(min(most-least, 9)+1))}
	for i := range s.Words {
		s.Words[i] = r.Uint64()
		switch kind {
		case api.FamPoly, api.FamString:
			s.Words[i] %= poly.P
			s.Bits = 61
		case api.FamOdd:
			s.Words[i] |= 1
		case api.FamAdd:
			s.Bits = 1 + (s.Bits-1)%32
		}
	}
	return s
}

func key(r *rand.Rand, kind int) uint64 {
	if kind == api.FamPoly {
		return r.Uint64N(poly.P)
	}
	return r.Uint64() >> (64 - Keys(kind))
}

// P27.1
func TestSizesKeysNames(t *testing.T) {
	for kind, want := range []struct {
		least, most, keys int
		name              string
	}{
		{0, 0, 0, ""},
		{1, 64, 61, "poly"}, {1, 1, 64, "odd"}, {2, 2, 32, "add"}, {4, 4, 64, "wide"},
		{128, 128, 32, "simple"}, {240, 240, 32, "twisted"}, {320, 320, 32, "mixed"}, {1, 1, 64, "string"},
	} {
		least, most := Size(kind)
		if least != want.least || most != want.most || Keys(kind) != want.keys || Name(kind) != want.name {
			t.Error(kind, least, most, Keys(kind), Name(kind))
		}
	}
	for _, k := range noKinds {
		if least, most := Size(k); least != 0 || most != 0 || Keys(k) != 0 || Name(k) != "" {
			t.Error(k)
		}
	}
}

// P27.2
func TestCheck(t *testing.T) {
	r := rand.New(rand.NewPCG(27, 1))
	for kind := 1; kind <= api.LastFam; kind++ {
		s := seed(r, kind)
		if e := Check(s); e != api.OK {
			t.Error(kind, e)
		}
		least, most := Size(kind)
		for n, want := range map[int]api.Errno{0: api.ErrSeed, least - 1: api.ErrSeed, most + 1: api.ErrSeed, least: api.OK, most: api.OK} {
			c := s
			c.Words = slices.Repeat(s.Words[:1], n)
			if e := Check(c); e != want {
				t.Error("words", kind, n, e)
			}
		}
		greatest, least2 := 64, 1
		switch kind {
		case api.FamPoly, api.FamString:
			greatest, least2 = 61, 61
		case api.FamAdd:
			greatest = 32
		}
		for bits := -2; bits < 70; bits++ {
			c := s
			c.Bits = bits
			if e := Check(c); (e == api.OK) != (bits >= least2 && bits <= greatest) || e != api.OK && e != api.ErrArg {
				t.Error("bits", kind, bits, e)
			}
			c.Words = nil
			if e := Check(c); e != api.ErrSeed {
				t.Error("words come before bits", kind, bits, e)
			}
		}
	}
	for _, c := range []struct {
		s    api.Seed
		want api.Errno
	}{
		{api.Seed{}, api.ErrKind},
		{api.Seed{Kind: 9, Bits: 8, Words: []uint64{1}}, api.ErrKind},
		{api.Seed{Kind: api.FamPoly, Bits: 61, Words: []uint64{1, poly.P}}, api.ErrDomain},
		{api.Seed{Kind: api.FamPoly, Bits: 60, Words: []uint64{1, poly.P}}, api.ErrArg},
		{api.Seed{Kind: api.FamOdd, Bits: 8, Words: []uint64{2}}, api.ErrSeed},
		{api.Seed{Kind: api.FamOdd, Bits: 0, Words: []uint64{2}}, api.ErrArg},
		{api.Seed{Kind: api.FamString, Bits: 61, Words: []uint64{poly.P}}, api.ErrDomain},
		{api.Seed{Kind: api.FamString, Bits: 61, Words: []uint64{poly.P - 1}}, api.OK},
		{api.Seed{Kind: api.FamString, Bits: 64, Words: []uint64{poly.P}}, api.ErrArg},
	} {
		if e := Check(c.s); e != c.want {
			t.Error(c.s, e)
		}
		if c.want == api.OK {
			continue
		}
		if Together(c.s) != 0 {
			t.Error("Together", c.s)
		}
		if v, e := Eval(c.s, 1<<63); v != 0 || e != c.want {
			t.Error("Eval", c.s, v, e)
		}
		if v, e := Text(c.s, nil); v != 0 || e != c.want {
			t.Error("Text", c.s, v, e)
		}
		if got, e := Shift(c.s, nil, nil); got.Kind != 0 || got.Bits != 0 || got.Words != nil || e != c.want {
			t.Error("Shift", c.s, got, e)
		}
	}
}

// P27.2
func TestTogether(t *testing.T) {
	r := rand.New(rand.NewPCG(27, 2))
	for kind, want := range []int{0, -1, 0, 2, 2, 3, 3, 3, 0} {
		if kind == 0 {
			continue
		}
		s := seed(r, kind)
		if kind == api.FamPoly {
			want = len(s.Words)
		}
		if Together(s) != want {
			t.Error(kind, Together(s))
		}
	}
	if Together(api.Seed{Kind: api.FamPoly, Bits: 61, Words: make([]uint64, 5)}) != 5 {
		t.Error("the chapter's example")
	}
}

// P27.3
func TestEval(t *testing.T) {
	r := rand.New(rand.NewPCG(27, 3))
	for range 100 {
		for kind := 1; kind <= api.LastFam; kind++ {
			s, x := seed(r, kind), key(r, kind)
			var want uint64
			w := s.Words
			switch kind {
			case api.FamPoly:
				want, _ = poly.Eval(w, x)
			case api.FamOdd:
				want, _ = mshift.Eval(w[0], s.Bits, x)
			case api.FamAdd:
				want, _ = madd.Eval(kind, s.Bits, api.U128{Lo: w[0]}, api.U128{Lo: w[1]}, x)
			case api.FamWide:
				want, _ = madd.Eval(kind, s.Bits, api.U128{Lo: w[0], Hi: w[1]}, api.U128{Lo: w[2], Hi: w[3]}, x)
			case api.FamSimple:
				want, _ = tabs.Eval(w, s.Bits, x)
			case api.FamTwisted:
				want, _ = twist.Eval(w, s.Bits, x)
			case api.FamMixed:
				want, _ = mixed.Eval(w, s.Bits, x)
			case api.FamString:
				want, _ = strpoly.Eval(w[0], load.Put64(nil, x))
			}
			if got, e := Eval(s, x); got != want || e != api.OK {
				t.Fatal(kind, x, got, e)
			}
			if Keys(kind) == 64 {
				continue
			}
			if got, e := Eval(s, 1<<Keys(kind)); got != 0 || e != api.ErrDomain {
				t.Fatal("no key", kind, got, e)
			}
		}
	}
	s := seed(r, api.FamPoly)
	if got, e := Eval(s, poly.P); got != 0 || e != api.ErrDomain {
		t.Error("the prime is no key", got, e)
	}
}

// P27.3
func TestText(t *testing.T) {
	r := rand.New(rand.NewPCG(27, 4))
	long := make([]byte, 4097)
	for kind := 1; kind <= api.LastFam; kind++ {
		s := seed(r, kind)
		if kind != api.FamString {
			if got, e := Text(s, long); got != 0 || e != api.ErrKind {
				t.Error(kind, got, e)
			}
			continue
		}
		want, _ := strpoly.Eval(s.Words[0], []byte("text"))
		if got, e := Text(s, []byte("text")); got != want || e != api.OK {
			t.Error(got, e)
		}
		if got, e := Text(s, long); got != 0 || e != api.ErrLong {
			t.Error("too long", got, e)
		}
	}
}

// P27.3, P27.4, G2
func TestShift(t *testing.T) {
	r := rand.New(rand.NewPCG(27, 5))
	for range 150 {
		for _, kind := range []int{api.FamPoly, api.FamAdd, api.FamWide, api.FamSimple, api.FamTwisted, api.FamMixed} {
			s := seed(r, kind)
			kept := slices.Clone(s.Words)
			var xs, ys, before []uint64
			for range 1 + r.IntN(Together(s)) {
				x := key(r, kind)
				if slices.Contains(xs, x) {
					continue
				}
				y := r.Uint64() >> (64 - s.Bits)
				if kind == api.FamPoly {
					y %= poly.P
				}
				value, _ := Eval(s, x)
				xs, ys, before = append(xs, x), append(ys, y), append(before, value)
			}
			aimed, e := Shift(s, xs, ys)
			if e != api.OK || aimed.Kind != kind || aimed.Bits != s.Bits || len(aimed.Words) != len(s.Words) || Check(aimed) != api.OK {
				t.Fatal(kind, xs, ys, e)
			}
			for i, x := range xs {
				if got, _ := Eval(aimed, x); got != ys[i] {
					t.Fatal("not mapped there", kind, xs, ys, i, got)
				}
			}
			back, e := Shift(aimed, xs, before)
			if e != api.OK || !slices.Equal(back.Words, s.Words) {
				t.Fatal("not back", kind, xs, ys)
			}
			clear(aimed.Words)
			clear(back.Words)
			if !slices.Equal(s.Words, kept) {
				t.Fatal("the argument was changed")
			}
		}
	}
}

// P27.3
func TestShiftOfPackages(t *testing.T) {
	r := rand.New(rand.NewPCG(27, 6))
	for range 50 {
		p := seed(r, api.FamPoly)
		x, y := key(r, api.FamPoly), r.Uint64N(poly.P)
		want, _ := through.Shift(p.Words, []uint64{x}, []uint64{y})
		if got, _ := Shift(p, []uint64{x}, []uint64{y}); !slices.Equal(got.Words, want) {
			t.Fatal("poly")
		}
		for _, kind := range []int{api.FamAdd, api.FamWide} {
			// A single key: its neighbour keeps its hash value.
			s := seed(r, kind)
			x, y := key(r, kind), r.Uint64()>>(64-s.Bits)
			a, b := api.U128{Lo: s.Words[0]}, api.U128{Lo: s.Words[1]}
			if kind == api.FamWide {
				a, b = api.U128{Lo: s.Words[0], Hi: s.Words[1]}, api.U128{Lo: s.Words[2], Hi: s.Words[3]}
			}
			other, _ := Eval(s, x^1)
			a, b, e := madd.Shift(kind, s.Bits, a, b, x, x^1, y, other)
			want := []uint64{a.Lo, b.Lo}
			if kind == api.FamWide {
				want = []uint64{a.Lo, a.Hi, b.Lo, b.Hi}
			}
			if got, e2 := Shift(s, []uint64{x}, []uint64{y}); !slices.Equal(got.Words, want) || e != e2 {
				t.Fatal("a single key", kind, x, y, got.Words, want)
			}
		}
	}
}

// P27.3
func TestShiftErrors(t *testing.T) {
	r := rand.New(rand.NewPCG(27, 7))
	none := func(kind int, s api.Seed, e, want api.Errno) {
		t.Helper()
		if s.Kind != 0 || s.Bits != 0 || s.Words != nil || e != want {
			t.Error(kind, s, e, want)
		}
	}
	for kind := 1; kind <= api.LastFam; kind++ {
		s := seed(r, kind)
		many := make([]uint64, Together(s)+1)
		if Together(s) == 0 {
			got, e := Shift(s, nil, nil)
			none(kind, got, e, api.ErrKind)
			got, e = Shift(s, []uint64{1}, []uint64{1})
			none(kind, got, e, api.ErrKind)
			continue
		}
		for _, c := range [][2][]uint64{{nil, nil}, {nil, {1}}, {{1}, nil}, {many, many}, {{1 << 63}, {1, 2}}} {
			got, e := Shift(s, c[0], c[1])
			none(kind, got, e, api.ErrArg)
		}
		if Keys(kind) < 64 {
			got, e := Shift(s, []uint64{1 << Keys(kind)}, []uint64{0})
			none(kind, got, e, api.ErrDomain)
		}
		if s.Bits < 64 {
			got, e := Shift(s, []uint64{1}, []uint64{1 << s.Bits})
			none(kind, got, e, api.ErrDomain)
		}
		if Together(s) > 1 {
			got, e := Shift(s, []uint64{1, 1}, []uint64{1, 1})
			none(kind, got, e, api.ErrSame)
		}
	}
}
