package mask

import (
	"math/bits"
	"math/rand/v2"
	"slices"
	"testing"

	"astragal/api"
	"astragal/tape"
	"astragal/wide"
)

var limits = []uint64{1, 2, 3, 4, 5, 6, 10, 1 << 31, 1<<32 - 1, 1 << 32, 1<<32 + 1, 1<<63 - 1, 1 << 63, 1<<63 + 1, 3 << 62, 1<<64 - 2, 1<<64 - 1}

func limit(r *rand.Rand) uint64 {
	if r.IntN(2) == 0 {
		return limits[r.IntN(len(limits))]
	}
	return r.Uint64()>>r.IntN(64) | 1<<r.IntN(64)
}

func list(r *rand.Rand, n int) []uint64 {
	l := make([]uint64, n)
	for i := range l {
		l[i] = r.Uint64()
		if r.IntN(2) == 0 {
			l[i] = 1<<64 - 1 // not accepted, unless the limit is a power of 2
		}
	}
	return l
}

// P39.1, P39.4
func TestBitsEachTakes(t *testing.T) {
	for n, want := range map[uint64]int{0: 0, 1: 0, 2: 1, 3: 2, 4: 2, 5: 3, 8: 3, 9: 4, 1 << 63: 63, 1<<63 + 1: 64, 1<<64 - 1: 64} {
		if Bits(n) != want {
			t.Error("Bits", n, Bits(n))
		}
	}
	r := rand.New(rand.NewPCG(39, 1))
	for range 5000 {
		n, w := limit(r), r.Uint64()
		k := bits.Len64(n - 1)
		if Bits(n) != k || Each(n) != wide.Shl(api.U128{Lo: 1}, 64-k) {
			t.Fatal(n, Bits(n), Each(n))
		}
		low := w
		if k < 64 {
			low %= 1 << k
		}
		if Takes(w, n) != (low < n) {
			t.Fatal("Takes", w, n)
		}
		// At least half of all words are accepted: twice n is at least 2^Bits.
		if k > 0 && n < 1<<(k-1) {
			t.Fatal("too much is lost", n)
		}
	}
	if Each(0) != (api.U128{}) || Takes(0, 0) || Takes(1<<64-1, 0) || Each(1) != (api.U128{Hi: 1}) || !Takes(1<<64-1, 1) {
		t.Error("the limits 0 and 1")
	}
}

// P39.2, P39.3
func TestRankAndWord(t *testing.T) {
	r := rand.New(rand.NewPCG(39, 2))
	for range 20000 {
		n, w := limit(r), r.Uint64()
		v, rank, e := Rank(w, n)
		if !Takes(w, n) {
			if v != 0 || rank != 0 || e != api.ErrDomain {
				t.Fatal("not accepted", w, n, v, rank, e)
			}
			continue
		}
		k := Bits(n)
		if e != api.OK || v != w-w>>k<<k || rank != w>>k || v >= n {
			t.Fatal("Rank", w, n, v, rank, e)
		}
		if back, e := Word(v, rank, n); back != w || e != api.OK {
			t.Fatal("Word of Rank", w, n, v, rank, back, e)
		}
	}
	for range 20000 {
		n := limit(r)
		v, rank, each := r.Uint64N(n), r.Uint64(), Each(n)
		if each.Hi == 0 {
			rank %= each.Lo
			if w, e := Word(v, each.Lo, n); w != 0 || e != api.ErrDomain {
				t.Fatal("a rank that there is not", v, n, w, e)
			}
		}
		w, e := Word(v, rank, n)
		if v2, rank2, e2 := Rank(w, n); v2 != v || rank2 != rank || e != api.OK || e2 != api.OK {
			t.Fatal("Rank of Word", v, rank, n, w, v2, rank2, e)
		}
		if w, e := Word(n, 0, n); w != 0 || e != api.ErrDomain {
			t.Fatal("a number that there is not", n, w, e)
		}
	}
	if v, rank, e := Rank(5, 0); v != 0 || rank != 0 || e != api.ErrZero {
		t.Error("Rank of 0", v, rank, e)
	}
	if w, e := Word(5, 5, 0); w != 0 || e != api.ErrZero {
		t.Error("Word of 0", w, e)
	}
}

// P39.2
func TestTake(t *testing.T) {
	r := rand.New(rand.NewPCG(39, 3))
	for range 5000 {
		n, l := limit(r), list(r, r.IntN(6))
		p := tape.New(l)
		first := 0
		for first < len(l) && !Takes(l[first], n) {
			first++
		}
		d, e := Take(p, n)
		if first == len(l) {
			if d != (api.Draw{}) || e != api.ErrExhausted || p.Left() != 0 {
				t.Fatal("exhausted", l, n, d, e)
			}
			continue
		}
		v, rank, _ := Rank(l[first], n)
		if e != api.OK || d != (api.Draw{N: v, Rank: rank, Used: first + 1}) || p.Used() != first+1 {
			t.Fatal("Take", l, n, d, e)
		}
	}
	p := tape.New([]uint64{7, 12, 5})
	if d, e := Take(p, 5); d.N != 4 || d.Used != 2 || e != api.OK || p.Left() != 1 {
		t.Error("the chapter's example", d, e)
	}
	if d, e := Take(p, 0); d != (api.Draw{}) || e != api.ErrZero || p.Left() != 1 {
		t.Error("the limit 0", d, e)
	}
	for _, p := range []*tape.Tape{nil, {}} {
		if d, e := Take(p, 5); d != (api.Draw{}) || e != api.ErrNil {
			t.Error("no tape", d, e)
		}
	}
}

// P39.2, P39.3, G4
func TestAim(t *testing.T) {
	r := rand.New(rand.NewPCG(39, 4))
	for range 5000 {
		n, l := limit(r), list(r, 1+r.IntN(6))
		kept := slices.Clone(l)
		d, e := Take(tape.New(l), n)
		if e != api.OK {
			if got, e2 := Aim(l, n, n); got != nil || e2 != e {
				t.Fatal("exhausted", l, n, got, e2)
			}
			continue
		}
		if got, e := Aim(l, n, n); got != nil || e != api.ErrDomain {
			t.Fatal("a number that there is not", l, n, got, e)
		}
		v := r.Uint64N(n)
		aimed, e := Aim(l, n, v)
		after, _ := Take(tape.New(aimed), n)
		if e != api.OK || after != (api.Draw{N: v, Rank: d.Rank, Used: d.Used}) {
			t.Fatal("Aim", l, n, v, aimed, e)
		}
		for i := range l {
			if i != d.Used-1 && aimed[i] != l[i] {
				t.Fatal("another word was changed", l, n, v, i)
			}
		}
		if back, e := Aim(aimed, n, d.N); e != api.OK || !slices.Equal(back, l) {
			t.Fatal("not back", l, n, v, back)
		}
		clear(aimed)
		if !slices.Equal(l, kept) {
			t.Fatal("the argument was changed")
		}
	}
	if got, e := Aim([]uint64{1}, 0, 0); got != nil || e != api.ErrZero {
		t.Error("the limit 0", got, e)
	}
	if got, e := Aim(nil, 5, 9); got != nil || e != api.ErrExhausted {
		t.Error("no words", got, e)
	}
}
