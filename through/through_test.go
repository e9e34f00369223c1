package through

import (
	"math/rand/v2"
	"slices"
	"testing"

	"astragal/api"
	"astragal/poly"
)

const p = poly.P

func below(r *rand.Rand) uint64 {
	edges := []uint64{0, 1, 2, p - 2, p - 1, 1 << 60}
	if r.IntN(3) == 0 {
		return edges[r.IntN(len(edges))]
	}
	return r.Uint64N(p)
}

func list(r *rand.Rand, n int) []uint64 {
	l := make([]uint64, n)
	for i := range l {
		l[i] = below(r)
	}
	return l
}

// keys are n different numbers.
func keys(r *rand.Rand, n int) []uint64 {
	var l []uint64
	for len(l) < n {
		if x := below(r); !slices.Contains(l, x) {
			l = append(l, x)
		}
		if len(l) > 4 {
			for len(l) < n {
				l = append(l, r.Uint64N(p-100)+50)
			}
		}
	}
	return l
}

// P19.1
func TestCheck(t *testing.T) {
	long := make([]uint64, 65)
	for i := range long {
		long[i] = uint64(i)
	}
	for _, c := range []struct {
		xs, ys []uint64
		want   api.Errno
	}{
		{nil, nil, api.ErrArg},
		{nil, []uint64{1}, api.ErrArg},
		{[]uint64{1}, nil, api.ErrArg},
		{[]uint64{p, p}, []uint64{p}, api.ErrArg},
		{[]uint64{1}, []uint64{1, 2}, api.ErrArg},
		{long, long, api.ErrArg},
		{long[:64], long[:64], api.OK},
		{[]uint64{p}, []uint64{1}, api.ErrDomain},
		{[]uint64{1}, []uint64{p}, api.ErrDomain},
		{[]uint64{1, 1}, []uint64{1, p}, api.ErrDomain},
		{[]uint64{1, 1}, []uint64{3, 3}, api.ErrSame},
		{[]uint64{1, 2, 1}, []uint64{3, 4, 5}, api.ErrSame},
		{[]uint64{1, 2}, []uint64{3, 3}, api.OK},
		{[]uint64{p - 1}, []uint64{p - 1}, api.OK},
	} {
		if got := Check(c.xs, c.ys); got != c.want {
			t.Error(c, got)
		}
		if l, e := Through(c.xs, c.ys); e != c.want || (e == api.OK) != (len(l) > 0) {
			t.Error("Through", c, l, e)
		}
	}
}

// P19.1, P19.3
func TestThrough(t *testing.T) {
	if got, e := Through([]uint64{1, 2}, []uint64{5, 7}); e != api.OK || !slices.Equal(got, []uint64{3, 2}) {
		t.Error("the chapter's example", got, e)
	}
	if got, _ := Through([]uint64{1, 2, 3}, []uint64{4, 4, 4}); !slices.Equal(got, []uint64{4, 0, 0}) {
		t.Error("zeros at the end", got)
	}
	r := rand.New(rand.NewPCG(19, 1))
	for range 150 {
		n := 1 + r.IntN(12)
		if r.IntN(20) == 0 {
			n = 64
		}
		c, xs := list(r, n), keys(r, n)
		ys := make([]uint64, n)
		for i, x := range xs {
			ys[i], _ = poly.Eval(c, x)
		}
		// As only one list has these values, it is c.
		if got, e := Through(xs, ys); e != api.OK || !slices.Equal(got, c) {
			t.Fatal(xs, ys, got, c)
		}
	}
}

// P19.1
func TestVanish(t *testing.T) {
	if !slices.Equal(Vanish(nil), []uint64{1}) || !slices.Equal(Vanish([]uint64{2, 3}), []uint64{6, p - 5, 1}) {
		t.Error("examples")
	}
	if !slices.Equal(Vanish([]uint64{p + 2, 3}), []uint64{6, p - 5, 1}) || !slices.Equal(Vanish([]uint64{p}), []uint64{0, 1}) {
		t.Error("elements count modulo P")
	}
	r := rand.New(rand.NewPCG(19, 2))
	for range 50 {
		xs := list(r, r.IntN(100))
		v := Vanish(xs)
		if len(v) != len(xs)+1 || v[len(v)-1] != 1 {
			t.Fatal("degree", len(xs), len(v))
		}
		for _, x := range xs {
			if _, value := poly.Divide(v, x); value != 0 {
				t.Fatal("not 0", x)
			}
		}
	}
}

// P19.2
func TestValues(t *testing.T) {
	c := []uint64{1, 2}
	if got, e := Values(c, []uint64{3, 0, 3}); e != api.OK || !slices.Equal(got, []uint64{7, 1, 7}) {
		t.Error(got, e)
	}
	if got, e := Values(c, nil); len(got) != 0 || e != api.OK {
		t.Error("no keys", got, e)
	}
	for _, w := range []struct {
		c, xs []uint64
		want  api.Errno
	}{
		{nil, []uint64{p}, api.ErrArg},
		{make([]uint64, 65), nil, api.ErrArg},
		{[]uint64{p}, []uint64{p}, api.ErrDomain},
		{c, []uint64{1, p}, api.ErrDomain},
	} {
		if got, e := Values(w.c, w.xs); got != nil || e != w.want {
			t.Error(w, got, e)
		}
	}
}

// P19.2, P19.4, G2
func TestShift(t *testing.T) {
	r := rand.New(rand.NewPCG(19, 3))
	for range 200 {
		n := 1 + r.IntN(10)
		c, m := list(r, n), 1+r.IntN(n)
		xs, ys := keys(r, m), list(r, m)
		before, _ := Values(c, xs)
		aimed, e := Shift(c, xs, ys)
		if e != api.OK || len(aimed) != len(c) {
			t.Fatal(e, aimed)
		}
		if after, _ := Values(aimed, xs); !slices.Equal(after, ys) {
			t.Fatal("not mapped there", c, xs, ys)
		}
		difference := make([]uint64, m)
		for i := range ys {
			difference[i] = (ys[i] + p - before[i]) % p
		}
		by, _ := Through(xs, difference)
		for i := range c {
			want := c[i]
			if i < m {
				want = (c[i] + by[i]) % p
			}
			if aimed[i] != want {
				t.Fatal("the sum", i, c, xs, ys)
			}
		}
		if back, e := Shift(aimed, xs, before); e != api.OK || !slices.Equal(back, c) {
			t.Fatal("not back", c, back)
		}
	}
	// The document's second example.
	if got, e := Shift([]uint64{1, 2}, []uint64{3}, []uint64{0}); e != api.OK || !slices.Equal(got, []uint64{1<<61 - 7, 2}) {
		t.Error(got, e)
	}
}

// P19.2
func TestShiftErrors(t *testing.T) {
	one := []uint64{1}
	for _, c := range []struct {
		c, xs, ys []uint64
		want      api.Errno
	}{
		{nil, nil, nil, api.ErrArg},
		{[]uint64{p}, nil, nil, api.ErrDomain},
		{one, nil, nil, api.ErrArg},
		{one, one, nil, api.ErrArg},
		{one, []uint64{p}, one, api.ErrDomain},
		{one, []uint64{1, 1}, []uint64{1, 1}, api.ErrSame},
		{one, []uint64{1, 2}, []uint64{1, p}, api.ErrDomain},
		{one, []uint64{1, 2}, []uint64{1, 1}, api.ErrArg},
	} {
		if got, e := Shift(c.c, c.xs, c.ys); got != nil || e != c.want {
			t.Error(c, got, e)
		}
	}
}

// P19.1, P19.2 with P2
func TestArgumentsRemain(t *testing.T) {
	c, xs, ys := []uint64{1, 2, 3}, []uint64{4, 5}, []uint64{6, 7}
	for _, f := range []func() ([]uint64, api.Errno){
		func() ([]uint64, api.Errno) { return Shift(c[:2], xs, ys) },
		func() ([]uint64, api.Errno) { return Through(xs, ys) },
		func() ([]uint64, api.Errno) { return Values(c[:2], xs) },
	} {
		out, _ := f()
		for i := range out {
			out[i] = 99
		}
		_ = append(out, 99)
	}
	if !slices.Equal(c, []uint64{1, 2, 3}) || !slices.Equal(xs, []uint64{4, 5}) || !slices.Equal(ys, []uint64{6, 7}) {
		t.Error(c, xs, ys)
	}
}
