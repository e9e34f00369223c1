package mixed

import (
	"math"
	"math/rand/v2"
	"slices"
	"testing"

	"astragal/api"
	"astragal/tabs"
)

func list(r *rand.Rand, n int) []uint64 {
	l := make([]uint64, n)
	for i := range l {
		l[i] = r.Uint64()
	}
	return l
}

// rowOf is the definition of the chapter.
func rowOf(words []uint64, x uint64) []int {
	row := make([]int, 12)
	derived := uint64(0)
	for i := range 8 {
		row[i] = int(x >> (4 * i) & 15)
		derived ^= words[192+16*i+row[i]]
	}
	for i := range 4 {
		row[8+i] = int(derived >> (4 * i) & 15)
	}
	return row
}

// P24.1
func TestRow(t *testing.T) {
	r := rand.New(rand.NewPCG(24, 1))
	for range 2000 {
		words, x := list(r, 320), r.Uint64()>>32
		if got, e := Row(words, x); !slices.Equal(got, rowOf(words, x)) || e != api.OK {
			t.Fatal(x, got, e)
		}
	}
	last := list(r, 320)
	if got, e := Row(last, 1<<32-1); !slices.Equal(got, rowOf(last, 1<<32-1)) || e != api.OK {
		t.Error("the greatest key", got, e)
	}
	if got, e := Row(make([]uint64, 320), 0x21); !slices.Equal(got, []int{1, 2, 0, 0, 0, 0, 0, 0, 0, 0, 0, 0}) || e != api.OK {
		t.Error("the chapter's example", got, e)
	}
}

// P24.1, P24.2
func TestErrors(t *testing.T) {
	words := make([]uint64, 321)
	seed := words[:320]
	for _, c := range []struct {
		words []uint64
		bits  int
		want  api.Errno
	}{
		{seed, 0, api.ErrArg}, {nil, 65, api.ErrArg}, {nil, math.MinInt, api.ErrArg}, {seed, math.MaxInt, api.ErrArg},
		{words, 1, api.ErrSeed}, {seed[:319], 64, api.ErrSeed}, {nil, 1, api.ErrSeed}, {seed[:128], 8, api.ErrSeed},
		{seed, 1, api.OK}, {seed, 64, api.OK},
	} {
		if e := Check(c.words, c.bits); e != c.want {
			t.Error("Check", len(c.words), c.bits, e)
		}
		want := c.want
		if want == api.OK {
			want = api.ErrDomain
		}
		if got, e := Eval(c.words, c.bits, 1<<32); got != 0 || e != want {
			t.Error("Eval", len(c.words), c.bits, got, e)
		}
		if got, e := Shift(c.words, c.bits, []uint64{1 << 32}, []uint64{1}); got != nil || e != want {
			t.Error("Shift", len(c.words), c.bits, got, e)
		}
	}
	if got, e := Row(words, 1<<32); got != nil || e != api.ErrSeed {
		t.Error("too many words", got, e)
	}
	if got, e := Row(seed, 1<<32); got != nil || e != api.ErrDomain {
		t.Error("no key", got, e)
	}
	for _, c := range []struct {
		xs, ys []uint64
		want   api.Errno
	}{
		{nil, nil, api.ErrArg},
		{[]uint64{1, 2, 3, 4}, []uint64{1, 2, 3, 4}, api.ErrArg},
		{[]uint64{1 << 32}, nil, api.ErrArg},
		{[]uint64{1, 1}, []uint64{256, 1}, api.ErrDomain},
		{[]uint64{1, 1 << 32}, []uint64{1, 1}, api.ErrDomain},
		{[]uint64{1, 1}, []uint64{1, 1}, api.ErrSame},
		{[]uint64{1, 2, 3}, []uint64{1, 1, 255}, api.OK},
	} {
		if got, e := Shift(seed, 8, c.xs, c.ys); e != c.want || e != api.OK && got != nil {
			t.Error(c, e)
		}
	}
}

// P24.2
func TestEval(t *testing.T) {
	r := rand.New(rand.NewPCG(24, 2))
	for range 500 {
		words, bits, x := list(r, 320), 1+r.IntN(64), r.Uint64()>>32
		want := uint64(0)
		for i, c := range rowOf(words, x) {
			want ^= words[16*i+c]
		}
		if bits < 64 {
			want %= 1 << bits
		}
		if got, e := Eval(words, bits, x); got != want || e != api.OK {
			t.Fatal(x, bits, got, e)
		}
	}
}

// P24.2, P24.3, G2
func TestShift(t *testing.T) {
	r := rand.New(rand.NewPCG(24, 3))
	for range 1000 {
		words, bits, n := list(r, 320), 1+r.IntN(64), 1+r.IntN(3)
		xs := []uint64{r.Uint64() >> 32}
		for len(xs) < n {
			if x := xs[r.IntN(len(xs))] ^ uint64(1+r.IntN(15))<<(4*r.IntN(8)); !slices.Contains(xs, x) {
				xs = append(xs, x)
			}
		}
		var before, ys, by []uint64
		var rows [][]int
		for i, x := range xs {
			value, _ := Eval(words, bits, x)
			before, ys, rows = append(before, value), append(ys, r.Uint64()>>(64-bits)), append(rows, rowOf(words, x))
			by = append(by, value^ys[i])
		}
		kept := slices.Clone(words)
		aimed, e := Shift(words, bits, xs, ys)
		first, _ := tabs.Aim(words[:192], rows, by)
		if e != api.OK || !slices.Equal(aimed, append(first, words[192:]...)) {
			t.Fatal("Shift", xs, ys, e)
		}
		for i, x := range xs {
			if got, _ := Eval(aimed, bits, x); got != ys[i] {
				t.Fatal("not mapped there", xs, ys, i, got)
			}
		}
		back, e := Shift(aimed, bits, xs, before)
		if e != api.OK || !slices.Equal(back, words) {
			t.Fatal("not back", xs, ys)
		}
		clear(aimed)
		clear(back)
		if !slices.Equal(words, kept) {
			t.Fatal("the argument was changed")
		}
	}
}
