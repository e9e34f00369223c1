package tabs

import (
	"math"
	"math/rand/v2"
	"slices"
	"testing"

	"astragal/api"
)

func list(r *rand.Rand, n int) []uint64 {
	l := make([]uint64, n)
	for i := range l {
		l[i] = r.Uint64()
	}
	return l
}

// P22.1
func TestChars(t *testing.T) {
	if !slices.Equal(Chars(0x21, 3), []int{1, 2, 0}) {
		t.Error("the chapter's example")
	}
	r := rand.New(rand.NewPCG(22, 1))
	for range 200 {
		x := r.Uint64()
		for n := -2; n < 20; n++ {
			got := Chars(x, n)
			if len(got) != min(max(n, 0), 16) {
				t.Fatal(x, n, got)
			}
			for i, c := range got {
				if c != int(x>>(4*i)&15) {
					t.Fatal(x, n, i, c)
				}
			}
		}
	}
	if len(Chars(5, math.MinInt)) != 0 || len(Chars(5, math.MaxInt)) != 16 {
		t.Error("the ends of int")
	}
}

// P22.1
func TestSum(t *testing.T) {
	r := rand.New(rand.NewPCG(22, 2))
	for n := range 20 {
		words, row := list(r, 16*n), make([]int, n)
		want := uint64(0)
		for i := range row {
			row[i] = r.IntN(16)
			want ^= words[16*i+row[i]]
		}
		if got, e := Sum(words, row); got != want || e != api.OK {
			t.Fatal(n, got, e)
		}
	}
	sixteen := list(r, 32)[:16]
	for _, c := range []struct {
		words []uint64
		row   []int
		want  api.Errno
	}{
		{nil, nil, api.OK},
		{nil, []int{0}, api.ErrArg},
		{sixteen, nil, api.ErrArg},
		{sixteen, []int{0, 0}, api.ErrArg},
		{sixteen[:15], []int{99}, api.ErrArg},
		{sixteen[:17], []int{99}, api.ErrArg},
		{sixteen, []int{16}, api.ErrDomain},
		{sixteen, []int{-1}, api.ErrDomain},
		{sixteen, []int{math.MaxInt}, api.ErrDomain},
		{sixteen, []int{15}, api.OK},
	} {
		if got, e := Sum(c.words, c.row); e != c.want || e != api.OK && got != 0 {
			t.Error(len(c.words), c.row, got, e)
		}
	}
}

// rows returns n different rows; few letters, so that they share many.
func someRows(r *rand.Rand, n, long, letters int) [][]int {
	for {
		rows := make([][]int, n)
		for i := range rows {
			rows[i] = make([]int, long)
			for j := range rows[i] {
				rows[i][j] = r.IntN(letters)
			}
		}
		same := false
		for i := range rows {
			for j := range i {
				same = same || slices.Equal(rows[i], rows[j])
			}
		}
		if !same {
			return rows
		}
	}
}

// P22.2
func TestAim(t *testing.T) {
	r := rand.New(rand.NewPCG(22, 3))
	for range 4000 {
		n, long := 1+r.IntN(3), 2+r.IntN(8)
		rows := someRows(r, n, long, 2+r.IntN(3))
		words, other, by := list(r, 16*long), list(r, 16*long), list(r, n)
		got, e := Aim(words, rows, by)
		if e != api.OK || len(got) != len(words) {
			t.Fatal(rows, e)
		}
		for i, row := range rows {
			before, _ := Sum(words, row)
			after, _ := Sum(got, row)
			if after != before^by[i] {
				t.Fatal("the sum of a row", rows, by, i)
			}
		}
		// What is changed depends on rows and by alone.
		got2, _ := Aim(other, rows, by)
		got3, _ := Aim(words, rows, list(r, n))
		for i := range words {
			if words[i]^got[i] != other[i]^got2[i] {
				t.Fatal("depends on the words", rows, by, i)
			}
			if (words[i] == got[i]) != (words[i] == got3[i]) {
				t.Fatal("which words change depends on by", rows, by, i)
			}
		}
		if back, e := Aim(got, rows, by); e != api.OK || !slices.Equal(back, words) {
			t.Fatal("not back", rows, by)
		}
	}
	// All triples of rows of two letters at three positions.
	for code := range 1 << 9 {
		var rows [][]int
		for i := range 3 {
			n := code >> (3 * i)
			rows = append(rows, []int{n & 1, n >> 1 & 1, n >> 2 & 1})
		}
		words, by := make([]uint64, 48), []uint64{1, 2, 4}
		same := slices.Equal(rows[0], rows[1]) || slices.Equal(rows[0], rows[2]) || slices.Equal(rows[1], rows[2])
		got, e := Aim(words, rows, by)
		if same != (e == api.ErrSame) || same && got != nil {
			t.Fatal(rows, e)
		}
		for i, row := range rows {
			if sum, _ := Sum(got, row); !same && sum != by[i] {
				t.Fatal(rows, i, sum)
			}
		}
	}
}

// P22.2
func TestAimErrors(t *testing.T) {
	words := make([]uint64, 64)
	two := words[:32]
	a, b, c := []int{0, 1}, []int{0, 2}, []int{1, 1}
	wrong := []int{0, 16}
	for _, w := range []struct {
		words []uint64
		rows  [][]int
		by    []uint64
		want  api.Errno
	}{
		{two, nil, nil, api.ErrArg},
		{two, [][]int{a, b, c, {2, 2}}, []uint64{1, 2, 3, 4}, api.ErrArg},
		{two, [][]int{a, a}, []uint64{1}, api.ErrArg},
		{two, [][]int{a}, []uint64{1, 2}, api.ErrArg},
		{two, [][]int{a, {0}}, []uint64{1, 2}, api.ErrArg},
		{two, [][]int{a, nil}, []uint64{1, 2}, api.ErrArg},
		{two, [][]int{wrong, {0}}, []uint64{1, 2}, api.ErrArg},
		{nil, [][]int{nil}, []uint64{1}, api.ErrArg},
		{nil, [][]int{{}, {}}, []uint64{1, 1}, api.ErrArg},
		{words[:31], [][]int{a}, []uint64{1}, api.ErrArg},
		{words[:48], [][]int{wrong, a}, []uint64{1, 2}, api.ErrArg},
		{two, [][]int{a, a, wrong}, []uint64{1, 2, 3}, api.ErrDomain},
		{two, [][]int{a, b, a}, []uint64{1, 2, 1}, api.ErrSame},
		{two, [][]int{a, b, c}, []uint64{1, 2, 1}, api.OK},
	} {
		if got, e := Aim(w.words, w.rows, w.by); e != w.want || e != api.OK && got != nil {
			t.Error(w.rows, w.by, got, e)
		}
	}
}

// P22.3
func TestCheckAndEval(t *testing.T) {
	r := rand.New(rand.NewPCG(22, 4))
	words := list(r, 129)
	seed := words[:128]
	for range 500 {
		x, bits := r.Uint64()>>32, 1+r.IntN(64)
		sum := uint64(0)
		for i := range 8 {
			sum ^= seed[16*i+int(x>>(4*i)&15)]
		}
		if bits < 64 {
			sum %= 1 << bits
		}
		if got, e := Eval(seed, bits, x); got != sum || e != api.OK {
			t.Fatal(x, bits, got, e)
		}
	}
	for _, c := range []struct {
		words []uint64
		bits  int
		x     uint64
		want  api.Errno
	}{
		{seed, 0, 1, api.ErrArg}, {nil, 0, 1, api.ErrArg}, {seed, 65, 1 << 32, api.ErrArg},
		{seed, math.MinInt, 1, api.ErrArg}, {seed, math.MaxInt, 1, api.ErrArg},
		{words, 1, 1 << 32, api.ErrSeed}, {seed[:127], 1, 1, api.ErrSeed}, {nil, 64, 1, api.ErrSeed},
		{seed, 1, 1 << 32, api.ErrDomain}, {seed, 64, 1<<64 - 1, api.ErrDomain},
		{seed, 64, 1<<32 - 1, api.OK},
	} {
		if got, e := Eval(c.words, c.bits, c.x); e != c.want || e != api.OK && got != 0 {
			t.Error(len(c.words), c.bits, c.x, got, e)
		}
		want := c.want
		if want == api.ErrDomain {
			want = api.OK
		}
		if e := Check(c.words, c.bits); e != want {
			t.Error("Check", len(c.words), c.bits, e)
		}
	}
}

// P22.3, P22.4, G2
func TestShift(t *testing.T) {
	r := rand.New(rand.NewPCG(22, 5))
	for range 2000 {
		seed, bits, n := list(r, 128), 1+r.IntN(64), 1+r.IntN(3)
		xs := []uint64{r.Uint64() >> 32}
		for len(xs) < n {
			// Keys that share most of their letters.
			if x := xs[r.IntN(len(xs))] ^ uint64(1+r.IntN(15))<<(4*r.IntN(8)); !slices.Contains(xs, x) {
				xs = append(xs, x)
			}
		}
		var before, ys []uint64
		for _, x := range xs {
			value, _ := Eval(seed, bits, x)
			before, ys = append(before, value), append(ys, r.Uint64()>>(64-bits))
		}
		aimed, e := Shift(seed, bits, xs, ys)
		if e != api.OK || len(aimed) != 128 {
			t.Fatal(xs, ys, e)
		}
		for i, x := range xs {
			if got, _ := Eval(aimed, bits, x); got != ys[i] {
				t.Fatal("not mapped there", xs, ys, i, got)
			}
		}
		if back, e := Shift(aimed, bits, xs, before); e != api.OK || !slices.Equal(back, seed) {
			t.Fatal("not back", xs, ys)
		}
	}
}

// P22.3
func TestShiftErrors(t *testing.T) {
	seed := make([]uint64, 128)
	for _, c := range []struct {
		words  []uint64
		bits   int
		xs, ys []uint64
		want   api.Errno
	}{
		{nil, 0, nil, nil, api.ErrArg},
		{nil, 1, nil, nil, api.ErrSeed},
		{seed, 8, nil, nil, api.ErrArg},
		{seed, 8, []uint64{1, 2, 3, 4}, []uint64{1, 2, 3, 4}, api.ErrArg},
		{seed, 8, []uint64{1 << 32}, nil, api.ErrArg},
		{seed, 8, []uint64{1}, []uint64{1, 2}, api.ErrArg},
		{seed, 8, []uint64{1 << 32}, []uint64{1}, api.ErrDomain},
		{seed, 8, []uint64{1, 1}, []uint64{1, 256}, api.ErrDomain},
		{seed, 8, []uint64{1, 2, 1}, []uint64{1, 2, 1}, api.ErrSame},
		{seed, 8, []uint64{1<<32 - 1}, []uint64{255}, api.OK},
	} {
		if got, e := Shift(c.words, c.bits, c.xs, c.ys); e != c.want || e != api.OK && got != nil {
			t.Error(c.bits, c.xs, c.ys, e)
		}
	}
	if Shift(seed, 8, []uint64{1}, []uint64{255}); slices.Max(seed) != 0 {
		t.Error("the argument was changed")
	}
}
