package poly

import (
	"math/big"
	"math/rand/v2"
	"slices"
	"testing"

	"astragal/api"
)

var prime = big.NewInt(P)

func big1(n uint64) *big.Int { return new(big.Int).SetUint64(n) }

// anyWord returns a number, which may be not less than P.
func anyWord(r *rand.Rand) uint64 {
	edges := []uint64{0, 1, P - 1, P, P + 1, 2 * P, 7 * P, 8*P + 7, 1<<64 - 1}
	if r.IntN(3) == 0 {
		return edges[r.IntN(len(edges))]
	}
	return r.Uint64()
}

func list(r *rand.Rand, n int, pick func(*rand.Rand) uint64) []uint64 {
	l := make([]uint64, n)
	for i := range l {
		l[i] = pick(r)
	}
	return l
}

func below(r *rand.Rand) uint64 { return anyWord(r) % P }

// value is the sum of the chapter.
func value(c []uint64, x uint64) uint64 {
	sum := new(big.Int)
	for i, a := range c {
		power := new(big.Int).Exp(big1(x), big.NewInt(int64(i)), prime)
		sum.Add(sum, power.Mul(power, big1(a)))
	}
	return sum.Mod(sum, prime).Uint64()
}

func trimmed(c []uint64) bool {
	for _, a := range c {
		if a >= P {
			return false
		}
	}
	return len(c) == 0 || c[len(c)-1] != 0
}

// P18.1
func TestCheckAndEval(t *testing.T) {
	r := rand.New(rand.NewPCG(18, 1))
	for range 500 {
		c, x := list(r, 1+r.IntN(64), below), below(r)
		if got, e := Eval(c, x); got != value(c, x) || e != api.OK || Check(c) != api.OK {
			t.Fatal(c, x, got, e)
		}
	}
	if got, e := Eval([]uint64{1, 2}, 3); got != 7 || e != api.OK {
		t.Error("the chapter's example", got, e)
	}
	for _, c := range []struct {
		c    []uint64
		x    uint64
		want api.Errno
		mine api.Errno
	}{
		{nil, P, api.ErrArg, api.ErrArg},
		{make([]uint64, 64), 0, api.OK, api.OK},
		{make([]uint64, 65), 0, api.ErrArg, api.ErrArg},
		{list(r, 65, func(*rand.Rand) uint64 { return P }), P, api.ErrArg, api.ErrArg},
		{[]uint64{1, P}, 0, api.ErrDomain, api.ErrDomain},
		{[]uint64{1<<64 - 1}, 0, api.ErrDomain, api.ErrDomain},
		{[]uint64{1, P - 1}, P, api.ErrDomain, api.OK},
		{[]uint64{1, P - 1}, P - 1, api.OK, api.OK},
		{[]uint64{1, P}[:1], 5, api.OK, api.OK},
	} {
		if got, e := Eval(c.c, c.x); e != c.want || e != api.OK && got != 0 || Check(c.c) != c.mine {
			t.Error(len(c.c), c.x, got, e, Check(c.c))
		}
	}
}

// P18.2
func TestTrimAddMul(t *testing.T) {
	r := rand.New(rand.NewPCG(18, 2))
	for range 500 {
		a, b, x := list(r, r.IntN(8), anyWord), list(r, r.IntN(8), anyWord), anyWord(r)
		for name, c := range map[string]struct {
			got  []uint64
			want *big.Int
		}{
			"Trim": {Trim(a), big1(value(a, x))},
			"Add":  {Add(a, b), new(big.Int).Add(big1(value(a, x)), big1(value(b, x)))},
			"Mul":  {Mul(a, b), new(big.Int).Mul(big1(value(a, x)), big1(value(b, x)))},
		} {
			if !trimmed(c.got) || value(c.got, x) != c.want.Mod(c.want, prime).Uint64() {
				t.Fatal(name, a, b, x, c.got)
			}
		}
		for i, got := range Trim(a) {
			if got != a[i]%P {
				t.Fatal("Trim", a, i)
			}
		}
	}
	if !slices.Equal(Trim([]uint64{P + 1, 2, 0, P, 5 * P}), []uint64{1, 2}) || len(Trim([]uint64{0, P})) != 0 || len(Trim(nil)) != 0 {
		t.Error("Trim")
	}
	if !slices.Equal(Add([]uint64{1, 5}, []uint64{P - 1, P - 5}), nil) || len(Mul(nil, []uint64{5})) != 0 {
		t.Error("a sum, or a product, that is 0")
	}
	if !slices.Equal(Mul([]uint64{P - 2, 1}, []uint64{P - 3, 1}), []uint64{6, P - 5, 1}) {
		t.Error("(X - 2) * (X - 3)")
	}
}

// P18.2, P18.4
func TestDivide(t *testing.T) {
	r := rand.New(rand.NewPCG(18, 3))
	for range 500 {
		c, x := list(r, r.IntN(10), anyWord), anyWord(r)
		quotient, rest := Divide(c, x)
		if !trimmed(quotient) || rest != value(c, x) {
			t.Fatal("Divide", c, x, quotient, rest)
		}
		minus := []uint64{P - x%P, 1}
		if !slices.Equal(Add(Mul(quotient, minus), []uint64{rest}), Trim(c)) {
			t.Fatal("quotient times divisor plus rest", c, x)
		}
		if len(c) > 0 && len(c) <= 64 {
			if got, e := Eval(Trim(append(Trim(c), 0)), x%P); e == api.OK && got != rest {
				t.Fatal("the remainder is the value", c, x)
			}
		}
	}
	if quotient, rest := Divide(nil, 5); len(quotient) != 0 || rest != 0 {
		t.Error("of 0", quotient, rest)
	}
}

// P18.2, P18.3
func TestRoots(t *testing.T) {
	r := rand.New(rand.NewPCG(18, 4))
	for range 200 {
		c := []uint64{1 + r.Uint64N(P-1)}
		var l, want []uint64
		for range r.IntN(6) {
			x := r.Uint64N(20)
			c = Mul(c, []uint64{P - x, 1})
		}
		for range 60 {
			x := r.Uint64N(25) + P*r.Uint64N(3)
			l = append(l, x)
			if value(c, x) == 0 && !slices.Contains(want, x%P) {
				want = append(want, x%P)
			}
		}
		got := Roots(c, l)
		if !slices.Equal(got, want) {
			t.Fatal(c, l, got, want)
		}
		if len(got) > len(c)-1 {
			t.Fatal("more roots than the degree", c, got)
		}
	}
	if got := Roots(nil, []uint64{3, P + 3, 1, P, 0, 3}); !slices.Equal(got, []uint64{3, 1, 0}) {
		t.Error("the polynomial 0", got)
	}
	if got := Roots([]uint64{5}, []uint64{1, 2}); len(got) != 0 {
		t.Error("a polynomial without roots", got)
	}
	if got := Roots([]uint64{P, P}, []uint64{9}); !slices.Equal(got, []uint64{9}) {
		t.Error("coefficients count modulo P", got)
	}
}

// P18.2 with P2
func TestArgumentsRemain(t *testing.T) {
	a := []uint64{1, P + 5, 0, 7}
	l := []uint64{P, 1}
	for _, out := range [][]uint64{Trim(a[:3]), Add(a[:3], nil), Add(nil, a[:3]), Mul(a[:3], []uint64{1}), Roots(nil, l)} {
		for i := range out {
			out[i] = 99
		}
		_ = append(out, 99)
	}
	if !slices.Equal(a, []uint64{1, P + 5, 0, 7}) || !slices.Equal(l, []uint64{P, 1}) {
		t.Error(a, l)
	}
}
