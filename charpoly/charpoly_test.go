package charpoly

import (
	"math"
	"math/rand/v2"
	"slices"
	"testing"

	"astragal/api"
	"astragal/gf2"
	"astragal/xoroshiro"
	"astragal/xoshiro"
)

func bitsOf(n uint64, long int) []bool {
	b := make([]bool, long)
	for i := range b {
		b[i] = n>>i&1 == 1
	}
	return b
}

// holds is the definition, word by word.
func holds(m []uint64, b []bool) bool {
	degree := gf2.Deg(m)
	if degree < 0 {
		return false
	}
	for i := 0; i+degree < len(b); i++ {
		sum := 0
		for j := 0; j <= degree; j++ {
			if gf2.Coef(m, j) && b[i+j] {
				sum++
			}
		}
		if sum%2 != 0 {
			return false
		}
	}
	return true
}

// P11.1
func TestHolds(t *testing.T) {
	for m := range uint64(64) {
		for long := range 8 {
			for n := range uint64(1) << long {
				b := bitsOf(n, long)
				if Holds([]uint64{m, 0}, b) != holds([]uint64{m}, b) {
					t.Fatal(m, b)
				}
			}
		}
	}
	if Holds(nil, nil) || Holds([]uint64{0, 0}, []bool{false}) {
		t.Error("the polynomial 0 holds for nothing")
	}
	if !Holds([]uint64{0, 1}, bitsOf(7, 60)) || !Holds([]uint64{1}, nil) {
		t.Error("nothing to be held")
	}
}

// P11.1: against all polynomials.
func TestRule(t *testing.T) {
	for long := range 11 {
		for n := range uint64(1) << long {
			b := bitsOf(n, long)
			least, found := uint64(0), 0
			for m := uint64(1); m < 128 && gf2.Deg([]uint64{m})*2 <= long; m++ {
				if found > 0 && gf2.Deg([]uint64{m}) > gf2.Deg([]uint64{least}) {
					break
				}
				if holds([]uint64{m}, b) {
					least, found = m, found+1
				}
			}
			rule, ok := Rule(b)
			switch {
			case found > 1:
				t.Fatal("the document's claim that there is only one", b)
			case found == 0 && (ok || rule != nil):
				t.Fatal("a rule that there is not", b, rule)
			case found == 1 && (!ok || !slices.Equal(rule, []uint64{least})):
				t.Fatal("Rule", b, rule, least)
			}
		}
	}
	if m, ok := Rule([]bool{true, false, true, false}); !ok || !slices.Equal(m, []uint64{5}) {
		t.Error("the chapter's example", m, ok)
	}
	if m, ok := Rule([]bool{false, false}); !ok || !slices.Equal(m, []uint64{1}) {
		t.Error("the chapter's example", m, ok)
	}
	if m, ok := Rule(nil); !ok || !slices.Equal(m, []uint64{1}) {
		t.Error("no bits", m, ok)
	}
	if m, ok := Rule([]bool{true}); ok || m != nil {
		t.Error("one bit", m, ok)
	}
}

// P11.1: what a rule makes has this rule.
func TestRow(t *testing.T) {
	r := rand.New(rand.NewPCG(11, 1))
	for range 300 {
		m := []uint64{r.Uint64() >> r.IntN(64), r.Uint64() >> (1 + r.IntN(64))}
		degree := gf2.Deg(m)
		if degree < 0 {
			continue
		}
		first := bitsOf(r.Uint64(), r.IntN(64))
		n := r.IntN(400)
		row := Row(m, first, n)
		if len(row) != n || !holds(m, row) {
			t.Fatal(m, first, n)
		}
		for i := range min(degree, n) {
			if row[i] != (i < len(first) && first[i]) {
				t.Fatal("the first bits", m, first, i)
			}
		}
		rule, ok := Rule(Row(m, first, 2*degree))
		if !ok || gf2.Deg(rule) > degree || !holds(rule, Row(m, first, 2*degree)) {
			t.Fatal("the rule of a row", m, rule)
		}
	}
	for n, want := range map[int]int{0: 0, -1: 0, math.MinInt: 0, 4096: 4096, 4097: 4096, math.MaxInt: 4096} {
		if got := len(Row([]uint64{7}, []bool{true}, n)); got != want {
			t.Error(n, got)
		}
		if got := len(Bits4([4]uint64{1}, n)); got != want {
			t.Error(n, got)
		}
		if got := len(Bits2(api.XoroPP, [2]uint64{1}, n)); got != want {
			t.Error(n, got)
		}
	}
	if Row(nil, []bool{true}, 9) != nil || Row([]uint64{0}, nil, 9) != nil {
		t.Error("the polynomial 0 makes no bits")
	}
	if !slices.Equal(Row([]uint64{1}, []bool{true, true}, 3), []bool{false, false, false}) {
		t.Error("the polynomial 1 makes zeros")
	}
	if far := Row(append(make([]uint64, 100), 1), []bool{true}, 5); !slices.Equal(far, []bool{true, false, false, false, false}) {
		t.Error("a degree beyond the bits", far)
	}
}

// P11.2
func TestBits(t *testing.T) {
	r := rand.New(rand.NewPCG(11, 2))
	s4 := [4]uint64{r.Uint64(), r.Uint64(), r.Uint64(), r.Uint64()}
	for i, b := range Bits4(s4, 300) {
		if b != (xoshiro.Run(s4, i)[0]&1 == 1) {
			t.Fatal(i)
		}
	}
	s2 := [2]uint64{r.Uint64() | 1, r.Uint64()}
	for _, k := range []int{api.XoroSS, api.XoroPP, 0} {
		for i, b := range Bits2(k, s2, 300) {
			if b != (xoroshiro.Run(k, s2, i)[0]&1 == 1) {
				t.Fatal(k, i)
			}
		}
	}
}

// P11.2, P11.3
func TestRulesOfGenerators(t *testing.T) {
	m := Xoshiro()
	rule, ok := Rule(Bits4([4]uint64{1, 0, 0, 0}, 512))
	if !ok || !slices.Equal(m, rule) || gf2.Deg(m) != 256 {
		t.Fatal("Xoshiro", m)
	}
	r := rand.New(rand.NewPCG(11, 3))
	for range 20 {
		s := [4]uint64{r.Uint64(), r.Uint64(), r.Uint64() >> r.IntN(65), r.Uint64()}
		if !Holds(m, Bits4(s, 1000)) {
			t.Fatal("does not hold", s)
		}
	}
	for _, k := range []int{api.XoroSS, api.XoroPP} {
		m := Xoroshiro(k)
		rule, ok := Rule(Bits2(k, [2]uint64{1, 0}, 256))
		if !ok || !slices.Equal(m, rule) || gf2.Deg(m) != 128 {
			t.Fatal("Xoroshiro", k, m)
		}
		for range 20 {
			s := [2]uint64{r.Uint64() >> r.IntN(65), r.Uint64()}
			if !Holds(m, Bits2(k, s, 1000)) {
				t.Fatal("does not hold", k, s)
			}
		}
	}
	for _, k := range []int{0, -1, api.Split, api.Pcg64, math.MaxInt} {
		if Xoroshiro(k) != nil {
			t.Error(k)
		}
	}
}

// P11.1 with P2
func TestArgumentsRemain(t *testing.T) {
	first := []bool{true, true, true, false}
	row := Row([]uint64{4}, first[:2], 10)
	for i := range row {
		row[i] = !row[i]
	}
	Rule(first[:3])
	if !slices.Equal(first, []bool{true, true, true, false}) {
		t.Error("changed", first)
	}
}
