package wide

import (
	"math"
	"math/big"
	"math/rand/v2"
	"strings"
	"testing"

	"astragal/api"
)

// edges are words at which carries and signs go wrong.
var edges = []uint64{0, 1, 2, 3, 9, 10, 1<<32 - 1, 1 << 32, 1<<63 - 1, 1 << 63, 1<<63 + 1, 1<<64 - 2, 1<<64 - 1}

func word(r *rand.Rand) uint64 {
	if r.IntN(3) == 0 {
		return edges[r.IntN(len(edges))]
	}
	return r.Uint64() >> r.IntN(64)
}

func two(r *rand.Rand) api.U128 { return api.U128{Hi: word(r), Lo: word(r)} }

func four(r *rand.Rand) api.U256 { return api.U256{word(r), word(r), word(r), word(r)} }

func big1(n uint64) *big.Int { return new(big.Int).SetUint64(n) }

func big2(a api.U128) *big.Int {
	return new(big.Int).Add(new(big.Int).Lsh(big1(a.Hi), 64), big1(a.Lo))
}

func big4(a api.U256) *big.Int {
	sum := new(big.Int)
	for i := 3; i >= 0; i-- {
		sum.Add(new(big.Int).Lsh(sum, 64), big1(a[i]))
	}
	return sum
}

func power(n uint) *big.Int { return new(big.Int).Lsh(big.NewInt(1), n) }

// modulo is the non-negative remainder.
func modulo(a *big.Int, n uint) *big.Int { return new(big.Int).Mod(a, power(n)) }

// P1.1
func TestArithmetic128(t *testing.T) {
	r := rand.New(rand.NewPCG(1, 1))
	for range 20000 {
		a, b, w, v := two(r), two(r), word(r), word(r)
		x, y := big2(a), big2(b)
		if got := Mul(w, v); big2(got).Cmp(new(big.Int).Mul(big1(w), big1(v))) != 0 {
			t.Fatal("Mul", w, v, got)
		}
		sum := new(big.Int).Add(x, y)
		if got, over := Add(a, b); big2(got).Cmp(modulo(sum, 128)) != 0 || over != (sum.Cmp(power(128)) >= 0) {
			t.Fatal("Add", a, b, got, over)
		}
		diff := new(big.Int).Sub(x, y)
		if got, below := Sub(a, b); big2(got).Cmp(modulo(diff, 128)) != 0 || below != (diff.Sign() < 0) {
			t.Fatal("Sub", a, b, got, below)
		}
		product := new(big.Int).Mul(x, y)
		if got := Times(a, b); big2(got).Cmp(modulo(product, 128)) != 0 {
			t.Fatal("Times", a, b, got)
		}
		if got := Full(a, b); big4(got).Cmp(product) != 0 {
			t.Fatal("Full", a, b, got)
		}
		if Cmp(a, b) != x.Cmp(y) || Cmp(a, a) != 0 {
			t.Fatal("Cmp", a, b)
		}
		quotient, rest := Div(a, w)
		if w == 0 {
			if quotient != (api.U128{}) || rest != 0 {
				t.Fatal("Div by 0", a, quotient, rest)
			}
			continue
		}
		q, m := new(big.Int).QuoRem(x, big1(w), new(big.Int))
		if big2(quotient).Cmp(q) != 0 || rest != m.Uint64() {
			t.Fatal("Div", a, w, quotient, rest)
		}
	}
	if Mul(1<<63, 2) != (api.U128{Hi: 1}) {
		t.Error("the chapter's example")
	}
}

// P1.1
func TestCmpByEitherHalf(t *testing.T) {
	for _, c := range []struct {
		a, b api.U128
		want int
	}{
		{api.U128{Hi: 1}, api.U128{Lo: 1<<64 - 1}, 1},
		{api.U128{Lo: 1<<64 - 1}, api.U128{Hi: 1}, -1},
		{api.U128{Hi: 5, Lo: 6}, api.U128{Hi: 5, Lo: 7}, -1},
		{api.U128{Hi: 5, Lo: 7}, api.U128{Hi: 5, Lo: 7}, 0},
		{api.U128{Hi: 1 << 63}, api.U128{}, 1},
	} {
		if got := Cmp(c.a, c.b); got != c.want {
			t.Error(c.a, c.b, got)
		}
	}
}

// P1.1
func TestShift128(t *testing.T) {
	r := rand.New(rand.NewPCG(1, 2))
	for range 200 {
		a := two(r)
		for n := range 140 {
			if got := Shl(a, n); big2(got).Cmp(modulo(new(big.Int).Lsh(big2(a), uint(n)), 128)) != 0 {
				t.Fatal("Shl", a, n, got)
			}
			if got := Shr(a, n); big2(got).Cmp(new(big.Int).Rsh(big2(a), uint(n))) != 0 {
				t.Fatal("Shr", a, n, got)
			}
		}
		for _, n := range []int{-1, -64, math.MinInt} {
			if Shl(a, n) != a || Shr(a, n) != a {
				t.Fatal("negative", a, n)
			}
		}
		for _, n := range []int{128, 192, 1 << 32, math.MaxInt} {
			if Shl(a, n) != (api.U128{}) || Shr(a, n) != (api.U128{}) {
				t.Fatal("far", a, n)
			}
		}
	}
}

// P1.2
func TestArithmetic256(t *testing.T) {
	r := rand.New(rand.NewPCG(1, 3))
	for range 20000 {
		a, b, w := four(r), four(r), word(r)
		if r.IntN(4) == 0 {
			b[2], b[3] = a[2], a[3]
		}
		x, y := big4(a), big4(b)
		sum := new(big.Int).Add(x, y)
		if got, over := Add4(a, b); big4(got).Cmp(modulo(sum, 256)) != 0 || over != (sum.Cmp(power(256)) >= 0) {
			t.Fatal("Add4", a, b, got, over)
		}
		diff := new(big.Int).Sub(x, y)
		if got, below := Sub4(a, b); big4(got).Cmp(modulo(diff, 256)) != 0 || below != (diff.Sign() < 0) {
			t.Fatal("Sub4", a, b, got, below)
		}
		if Cmp4(a, b) != x.Cmp(y) || Cmp4(a, a) != 0 {
			t.Fatal("Cmp4", a, b)
		}
		if Len4(a) != x.BitLen() {
			t.Fatal("Len4", a, Len4(a))
		}
		if big4(Of4(w)).Cmp(big1(w)) != 0 {
			t.Fatal("Of4", w)
		}
	}
	if Len4(api.U256{}) != 0 || Len4(api.U256{0, 0, 0, 1 << 63}) != 256 {
		t.Error("Len4 at its ends")
	}
}

// P1.2
func TestBitsAndShift256(t *testing.T) {
	r := rand.New(rand.NewPCG(1, 4))
	for range 50 {
		a := four(r)
		for n := range 300 {
			if got := Shl4(a, n); big4(got).Cmp(modulo(new(big.Int).Lsh(big4(a), uint(n)), 256)) != 0 {
				t.Fatal("Shl4", a, n, got)
			}
			if Bit4(a, n) != (big4(a).Bit(n) == 1) {
				t.Fatal("Bit4", a, n)
			}
		}
	}
	all := api.U256{1<<64 - 1, 1<<64 - 1, 1<<64 - 1, 1<<64 - 1}
	for _, n := range []int{-1, -64, 256, 257, math.MinInt, math.MaxInt} {
		if Bit4(all, n) {
			t.Error("a bit that there is not", n)
		}
	}
	if Shl4(all, -1) != all || Shl4(all, math.MinInt) != all {
		t.Error("a negative shift counts as 0")
	}
	if Shl4(all, 256) != (api.U256{}) || Shl4(all, math.MaxInt) != (api.U256{}) {
		t.Error("a shift beyond all bits")
	}
}

// P1.3
func TestTextAndBack(t *testing.T) {
	r := rand.New(rand.NewPCG(1, 5))
	for range 5000 {
		a := four(r)
		a[3] >>= uint(r.IntN(65))
		s := Text4(a)
		if s != big4(a).String() {
			t.Fatal("Text4", a, s)
		}
		if got, e := Read4(s); got != a || e != api.OK {
			t.Fatal("Read4", s, got, e)
		}
	}
	ten := new(big.Int).SetInt64(1)
	for ten.BitLen() <= 256 {
		if got, e := Read4(ten.String()); e != api.OK || Text4(got) != ten.String() {
			t.Error("a power of ten", ten, got, e)
		}
		ten.Mul(ten, big.NewInt(10))
	}
}

// P1.3
func TestReadErrors(t *testing.T) {
	most := new(big.Int).Sub(power(256), big.NewInt(1)).String()
	over := power(256).String()
	for _, c := range []struct {
		s    string
		want api.Errno
	}{
		{"", api.ErrShort},
		{"0", api.OK},
		{"00", api.ErrForm},
		{"01", api.ErrForm},
		{"-1", api.ErrForm},
		{"+1", api.ErrForm},
		{" 1", api.ErrForm},
		{"1 ", api.ErrForm},
		{"1_0", api.ErrForm},
		{"0x1", api.ErrForm},
		{"\xff", api.ErrForm},
		{"٣", api.ErrForm},
		{most, api.OK},
		{over, api.ErrOver},
		{most + "0", api.ErrOver},
		{strings.Repeat("9", 5000), api.ErrOver},
		{strings.Repeat("9", 5000) + "x", api.ErrForm},
		{"0" + strings.Repeat("9", 5000), api.ErrForm},
	} {
		got, e := Read4(c.s)
		if e != c.want || e != api.OK && got != (api.U256{}) {
			t.Errorf("%.20q: %v %v", c.s, got, e)
		}
	}
}
