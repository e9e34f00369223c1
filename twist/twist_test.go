package twist

import (
	"math"
	"math/rand/v2"
	"slices"
	"testing"

	"astragal/api"
	"astragal/tabs"
)

func list(r *rand.Rand, n int) []uint64 {
	l := make([]uint64, n)
	for i := range l {
		l[i] = r.Uint64()
	}
	return l
}

// turned is the definition of the chapter.
func turned(words []uint64, x uint64) uint64 {
	highest := x >> 28 & 15
	for i := range 7 {
		c := x >> (4 * i) & 15
		highest ^= words[128+16*i+int(c)] & 15
	}
	return x&(1<<28-1) | highest<<28
}

// P23.1
func TestTurn(t *testing.T) {
	r := rand.New(rand.NewPCG(23, 1))
	for range 100 {
		words := list(r, 240)
		for range 50 {
			x := r.Uint64() >> 32
			got, e := Turn(words, x)
			if got != turned(words, x) || e != api.OK {
				t.Fatal("Turn", x, got, e)
			}
			if back, e := Unturn(words, got); back != x || e != api.OK {
				t.Fatal("Unturn", x, got, back, e)
			}
			if there, _ := Unturn(words, x); turned(words, there) != x {
				t.Fatal("Unturn", x)
			}
		}
	}
	last := list(r, 240)
	if got, e := Turn(last, 1<<32-1); got != turned(last, 1<<32-1) || e != api.OK {
		t.Error("the greatest key", got, e)
	}
	if got, e := Turn(make([]uint64, 240), 0x12345678); got != 0x12345678 || e != api.OK {
		t.Error("the chapter's example", got, e)
	}
}

// P23.1, P23.2
func TestErrors(t *testing.T) {
	words := make([]uint64, 241)
	seed := words[:240]
	for _, c := range []struct {
		words []uint64
		bits  int
		want  api.Errno
	}{
		{seed, 0, api.ErrArg}, {nil, 65, api.ErrArg}, {nil, math.MinInt, api.ErrArg}, {seed, math.MaxInt, api.ErrArg},
		{words, 1, api.ErrSeed}, {seed[:239], 64, api.ErrSeed}, {nil, 1, api.ErrSeed}, {seed[:128], 8, api.ErrSeed},
		{seed, 1, api.OK}, {seed, 64, api.OK},
	} {
		if e := Check(c.words, c.bits); e != c.want {
			t.Error("Check", len(c.words), c.bits, e)
		}
		want := c.want
		if want == api.OK {
			want = api.ErrDomain
		}
		if got, e := Eval(c.words, c.bits, 1<<32); got != 0 || e != want {
			t.Error("Eval", len(c.words), c.bits, got, e)
		}
		if got, e := Shift(c.words, c.bits, []uint64{1 << 32}, []uint64{1}); got != nil || e != want {
			t.Error("Shift", len(c.words), c.bits, got, e)
		}
	}
	for _, f := range []func([]uint64, uint64) (uint64, api.Errno){Turn, Unturn} {
		if got, e := f(words, 1<<32); got != 0 || e != api.ErrSeed {
			t.Error("too many words", got, e)
		}
		if got, e := f(seed, 1<<32); got != 0 || e != api.ErrDomain {
			t.Error("no key", got, e)
		}
	}
	for _, c := range []struct {
		xs, ys []uint64
		want   api.Errno
	}{
		{nil, nil, api.ErrArg},
		{[]uint64{1, 2, 3, 4}, []uint64{1, 2, 3, 4}, api.ErrArg},
		{[]uint64{1 << 32}, nil, api.ErrArg},
		{[]uint64{1, 1}, []uint64{256, 1}, api.ErrDomain},
		{[]uint64{1, 1 << 32}, []uint64{1, 1}, api.ErrDomain},
		{[]uint64{1, 1}, []uint64{1, 1}, api.ErrSame},
		{[]uint64{1, 2, 3}, []uint64{1, 1, 255}, api.OK},
	} {
		if got, e := Shift(seed, 8, c.xs, c.ys); e != c.want || e != api.OK && got != nil {
			t.Error(c, e)
		}
	}
}

// P23.2
func TestEval(t *testing.T) {
	r := rand.New(rand.NewPCG(23, 2))
	for range 500 {
		words, bits, x := list(r, 240), 1+r.IntN(64), r.Uint64()>>32
		want, _ := tabs.Eval(words[:128], bits, turned(words, x))
		if got, e := Eval(words, bits, x); got != want || e != api.OK {
			t.Fatal(x, bits, got, e)
		}
	}
}

// P23.2, P23.3, G2
func TestShift(t *testing.T) {
	r := rand.New(rand.NewPCG(23, 3))
	for range 1000 {
		words, bits, n := list(r, 240), 1+r.IntN(64), 1+r.IntN(3)
		xs := []uint64{r.Uint64() >> 32}
		for len(xs) < n {
			if x := xs[r.IntN(len(xs))] ^ uint64(1+r.IntN(15))<<(4*r.IntN(8)); !slices.Contains(xs, x) {
				xs = append(xs, x)
			}
		}
		var before, ys, there []uint64
		for _, x := range xs {
			value, _ := Eval(words, bits, x)
			before, ys, there = append(before, value), append(ys, r.Uint64()>>(64-bits)), append(there, turned(words, x))
		}
		kept := slices.Clone(words)
		aimed, e := Shift(words, bits, xs, ys)
		first, _ := tabs.Shift(words[:128], bits, there, ys)
		if e != api.OK || !slices.Equal(aimed, append(first, words[128:]...)) {
			t.Fatal("Shift", xs, ys, e)
		}
		for i, x := range xs {
			if got, _ := Eval(aimed, bits, x); got != ys[i] {
				t.Fatal("not mapped there", xs, ys, i, got)
			}
		}
		back, e := Shift(aimed, bits, xs, before)
		if e != api.OK || !slices.Equal(back, words) {
			t.Fatal("not back", xs, ys)
		}
		clear(aimed)
		clear(back)
		if !slices.Equal(words, kept) {
			t.Fatal("the argument was changed")
		}
	}
}
