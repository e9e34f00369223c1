package madd

import (
	"math"
	"math/big"
	"math/rand/v2"
	"testing"

	"astragal/api"
)

var kinds = []int{api.FamAdd, api.FamWide}

// widths, key bits and the most bits, by kind.
var shapes = map[int][3]int{api.FamAdd: {64, 32, 32}, api.FamWide: {128, 64, 64}}

func big1(n uint64) *big.Int { return new(big.Int).SetUint64(n) }

func big2(a api.U128) *big.Int {
	return new(big.Int).Add(new(big.Int).Lsh(big1(a.Hi), 64), big1(a.Lo))
}

func seed(r *rand.Rand, kind int) api.U128 {
	s := api.U128{Lo: r.Uint64() >> r.IntN(65)}
	if kind == api.FamWide {
		s.Hi = r.Uint64() >> r.IntN(65)
	}
	return s
}

func key(r *rand.Rand, kind int) uint64 {
	n := shapes[kind][1]
	edges := []uint64{0, 1, 2, 1 << (n - 1), 1<<(n-1) - 1, 1<<n - 1}
	if r.IntN(3) == 0 {
		return edges[r.IntN(len(edges))]
	}
	return r.Uint64() >> (64 - n) >> r.IntN(n)
}

// P21.1
func TestWidthAndCheck(t *testing.T) {
	if Width(api.FamAdd) != 64 || Width(api.FamWide) != 128 {
		t.Error("Width")
	}
	for _, k := range []int{0, -1, api.FamPoly, api.FamOdd, api.FamSimple, 9, math.MinInt, math.MaxInt} {
		if Width(k) != 0 || Check(k, 0, api.U128{Hi: 1}, api.U128{}) != api.ErrKind {
			t.Error(k)
		}
	}
	one, great := api.U128{Lo: 1}, api.U128{Hi: 1}
	for _, c := range []struct {
		kind, bits int
		a, b       api.U128
		want       api.Errno
	}{
		{api.FamAdd, 0, great, one, api.ErrArg},
		{api.FamAdd, 33, great, one, api.ErrArg},
		{api.FamAdd, 32, great, one, api.ErrSeed},
		{api.FamAdd, 32, one, great, api.ErrSeed},
		{api.FamAdd, 32, api.U128{Lo: 1<<64 - 1}, api.U128{Lo: 1<<64 - 1}, api.OK},
		{api.FamAdd, 1, one, one, api.OK},
		{api.FamAdd, math.MinInt, one, one, api.ErrArg},
		{api.FamWide, 0, one, one, api.ErrArg},
		{api.FamWide, 65, one, one, api.ErrArg},
		{api.FamWide, math.MaxInt, one, one, api.ErrArg},
		{api.FamWide, 64, api.U128{Hi: 1<<64 - 1, Lo: 1<<64 - 1}, great, api.OK},
	} {
		if got := Check(c.kind, c.bits, c.a, c.b); got != c.want {
			t.Error(c, got)
		}
		if c.want == api.OK {
			continue
		}
		if got, e := Eval(c.kind, c.bits, c.a, c.b, 1<<63); got != 0 || e != c.want {
			t.Error("Eval", c, got, e)
		}
		if a, b, e := Shift(c.kind, c.bits, c.a, c.b, 1<<63, 1<<63, 0, 0); a != (api.U128{}) || b != (api.U128{}) || e != c.want {
			t.Error("Shift", c, a, b, e)
		}
	}
}

// P21.1
func TestEval(t *testing.T) {
	r := rand.New(rand.NewPCG(21, 1))
	for _, kind := range kinds {
		width, keyBits, most := shapes[kind][0], shapes[kind][1], shapes[kind][2]
		for range 3000 {
			a, b, x, bits := seed(r, kind), seed(r, kind), key(r, kind), 1+r.IntN(most)
			n := new(big.Int).Add(new(big.Int).Mul(big2(a), big1(x)), big2(b))
			n.Mod(n, new(big.Int).Lsh(big.NewInt(1), uint(width)))
			n.Rsh(n, uint(width-bits))
			if got, e := Eval(kind, bits, a, b, x); e != api.OK || n.Cmp(big1(got)) != 0 {
				t.Fatal(kind, bits, a, b, x, got, e)
			}
		}
		if keyBits < 64 {
			if got, e := Eval(kind, 8, api.U128{}, api.U128{}, 1<<32); got != 0 || e != api.ErrDomain {
				t.Error("too great a key", got, e)
			}
		}
	}
	if got, e := Eval(api.FamAdd, 8, api.U128{Lo: 1 << 56}, api.U128{}, 3); got != 3 || e != api.OK {
		t.Error("the chapter's example", got, e)
	}
}

// P21.2, P21.3, G2
func TestShift(t *testing.T) {
	r := rand.New(rand.NewPCG(21, 2))
	for _, kind := range kinds {
		width, most := shapes[kind][0], shapes[kind][2]
		modulus := new(big.Int).Lsh(big.NewInt(1), uint(width))
		for range 5000 {
			a, b, bits := seed(r, kind), seed(r, kind), 1+r.IntN(most)
			x, y := key(r, kind), key(r, kind)
			if r.IntN(2) == 0 {
				y = x ^ 1<<r.IntN(shapes[kind][1])
			}
			if x == y {
				continue
			}
			u, v := r.Uint64()>>(64-bits), r.Uint64()>>(64-bits)
			before, _ := Eval(kind, bits, a, b, x)
			beforeY, _ := Eval(kind, bits, a, b, y)
			c, d, e := Shift(kind, bits, a, b, x, y, u, v)
			if e != api.OK || Check(kind, bits, c, d) != api.OK {
				t.Fatal("Shift", kind, bits, a, b, x, y, u, v, e)
			}
			gotX, _ := Eval(kind, bits, c, d, x)
			gotY, _ := Eval(kind, bits, c, d, y)
			if gotX != u || gotY != v {
				t.Fatal("not mapped there", kind, bits, a, b, x, y, u, v)
			}
			// What lies below the hash values remains, and so do the highest s bits of a.
			low := new(big.Int).Lsh(big.NewInt(1), uint(width-bits))
			for _, k := range []uint64{x, y} {
				old := new(big.Int).Add(new(big.Int).Mul(big2(a), big1(k)), big2(b))
				now := new(big.Int).Add(new(big.Int).Mul(big2(c), big1(k)), big2(d))
				if old.Mod(old, low).Cmp(now.Mod(now, low)) != 0 {
					t.Fatal("the lower bits", kind, bits, a, b, x, y, u, v)
				}
			}
			gap := new(big.Int).Mod(new(big.Int).Sub(big1(x), big1(y)), modulus)
			s := gap.TrailingZeroBits()
			if new(big.Int).Rsh(big2(a), uint(width)-s).Cmp(new(big.Int).Rsh(big2(c), uint(width)-s)) != 0 {
				t.Fatal("the highest bits of a", kind, bits, a, b, x, y, u, v)
			}
			if back, backB, e := Shift(kind, bits, c, d, x, y, before, beforeY); back != a || backB != b || e != api.OK {
				t.Fatal("not back", kind, bits, a, b, x, y, u, v)
			}
		}
	}
}

// P21.2
func TestShiftErrors(t *testing.T) {
	one := api.U128{Lo: 1}
	for _, c := range []struct {
		kind, bits int
		x, y, u, v uint64
		want       api.Errno
	}{
		{api.FamAdd, 8, 1 << 32, 1 << 32, 0, 0, api.ErrDomain},
		{api.FamAdd, 8, 1, 1 << 32, 0, 0, api.ErrDomain},
		{api.FamAdd, 8, 1, 1, 256, 0, api.ErrDomain},
		{api.FamAdd, 8, 1, 2, 0, 256, api.ErrDomain},
		{api.FamAdd, 8, 1, 1, 255, 255, api.ErrSame},
		{api.FamAdd, 32, 1, 2, 1<<32 - 1, 1 << 32, api.ErrDomain},
		{api.FamAdd, 8, 1, 2, 255, 255, api.OK},
		{api.FamWide, 63, 1, 2, 1 << 63, 0, api.ErrDomain},
		{api.FamWide, 64, 1, 1, 1 << 63, 0, api.ErrSame},
		{api.FamWide, 64, 1, 1<<64 - 1, 1<<64 - 1, 0, api.OK},
	} {
		a, b, e := Shift(c.kind, c.bits, one, one, c.x, c.y, c.u, c.v)
		if e != c.want || e != api.OK && (a != api.U128{} || b != api.U128{}) {
			t.Error(c, a, b, e)
		}
	}
}
