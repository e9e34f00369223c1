package lemire

import (
	"math/big"
	"math/rand/v2"
	"slices"
	"testing"

	"astragal/api"
	"astragal/tape"
	"astragal/wide"
)

var all = new(big.Int).Lsh(big.NewInt(1), 64)

func big1(n uint64) *big.Int { return new(big.Int).SetUint64(n) }

func big2(a api.U128) *big.Int {
	return new(big.Int).Add(new(big.Int).Lsh(big1(a.Hi), 64), big1(a.Lo))
}

// limits at which much is rejected, or nothing.
var limits = []uint64{1, 2, 3, 5, 6, 10, 1 << 31, 1<<32 - 1, 1 << 32, 1<<32 + 1, 1<<63 - 1, 1 << 63, 1<<63 + 1, 3 << 62, 1<<64 - 2, 1<<64 - 1}

func limit(r *rand.Rand) uint64 {
	if r.IntN(2) == 0 {
		return limits[r.IntN(len(limits))]
	}
	return r.Uint64()>>r.IntN(64) | 1<<r.IntN(64)
}

// P38.1, P38.5
func TestLossEachTakes(t *testing.T) {
	r := rand.New(rand.NewPCG(38, 1))
	for range 5000 {
		n, w := limit(r), r.Uint64()>>r.IntN(64)
		each, loss := new(big.Int).QuoRem(all, big1(n), new(big.Int))
		if big1(Loss(n)).Cmp(loss) != 0 || big2(Each(n)).Cmp(each) != 0 {
			t.Fatal(n, Loss(n), Each(n))
		}
		if Loss(n) >= n || Loss(n) >= 1<<63 {
			t.Fatal("too great a loss", n)
		}
		if Takes(w, n) != (w*n >= Loss(n)) {
			t.Fatal("Takes", w, n)
		}
	}
	if Loss(10) != 6 || Loss(0) != 0 || Each(0) != (api.U128{}) || Takes(5, 0) || Takes(0, 0) || Each(1) != (api.U128{Hi: 1}) {
		t.Error("examples")
	}
}

// P38.2, P38.4
func TestRankAndWord(t *testing.T) {
	r := rand.New(rand.NewPCG(38, 2))
	for range 20000 {
		n, w := limit(r), r.Uint64()
		v, rank, e := Rank(w, n)
		if !Takes(w, n) {
			if v != 0 || rank != 0 || e != api.ErrDomain {
				t.Fatal("not accepted", w, n, v, rank, e)
			}
			continue
		}
		if e != api.OK || v != wide.Mul(w, n).Hi {
			t.Fatal("the number", w, n, v, e)
		}
		if back, e := Word(v, rank, n); back != w || e != api.OK {
			t.Fatal("Word of Rank", w, n, v, rank, back, e)
		}
		// The word before it yields another number, or has the rank before it, or is not accepted.
		if w > 0 && Takes(w-1, n) {
			if v2, rank2, _ := Rank(w-1, n); v2 == v && rank2 != rank-1 || v2 != v && rank != 0 {
				t.Fatal("the word before", w, n)
			}
		} else if rank != 0 {
			t.Fatal("the first accepted word has the rank 0", w, n, rank)
		}
	}
	for range 20000 {
		n := limit(r)
		v := r.Uint64N(n)
		each := Each(n)
		rank := r.Uint64()
		if each.Hi == 0 {
			rank %= each.Lo
			if r.IntN(3) == 0 {
				rank = each.Lo - 1
			}
			if w, e := Word(v, each.Lo, n); w != 0 || e != api.ErrDomain {
				t.Fatal("a rank that there is not", v, n, w, e)
			}
		}
		w, e := Word(v, rank, n)
		if e != api.OK || !Takes(w, n) {
			t.Fatal("Word", v, rank, n, w, e)
		}
		if v2, rank2, _ := Rank(w, n); v2 != v || rank2 != rank {
			t.Fatal("Rank of Word", v, rank, n, v2, rank2)
		}
	}
	for _, n := range limits {
		if w, e := Word(n, 0, n); w != 0 || e != api.ErrDomain {
			t.Error("a number that there is not", n, w, e)
		}
	}
	if v, rank, e := Rank(5, 0); v != 0 || rank != 0 || e != api.ErrZero {
		t.Error("Rank of 0", v, rank, e)
	}
	if w, e := Word(5, 5, 0); w != 0 || e != api.ErrZero {
		t.Error("Word of 0", w, e)
	}
}

// words are such that many are rejected by the limit n.
func words(r *rand.Rand, n uint64, long int) []uint64 {
	l := make([]uint64, long)
	for i := range l {
		l[i] = r.Uint64()
		if r.IntN(2) == 0 {
			l[i] = 0 // not accepted, unless nothing is lost
		}
	}
	return l
}

// P38.3
func TestTake(t *testing.T) {
	r := rand.New(rand.NewPCG(38, 3))
	for range 5000 {
		n := limit(r)
		l := words(r, n, r.IntN(6))
		p := tape.New(l)
		first := 0
		for first < len(l) && !Takes(l[first], n) {
			first++
		}
		d, e := Take(p, n)
		if first == len(l) {
			if d != (api.Draw{}) || e != api.ErrExhausted || p.Left() != 0 {
				t.Fatal("exhausted", l, n, d, e)
			}
			continue
		}
		v, rank, _ := Rank(l[first], n)
		if e != api.OK || d != (api.Draw{N: v, Rank: rank, Used: first + 1}) || p.Used() != first+1 {
			t.Fatal("Take", l, n, d, e)
		}
	}
	p := tape.New([]uint64{1 << 63, 1<<63 + 1, 5})
	if d, e := Take(p, 10); d.N != 5 || d.Used != 2 || e != api.OK || p.Left() != 1 {
		t.Error("the chapter's example", d, e)
	}
	if d, e := Take(p, 0); d != (api.Draw{}) || e != api.ErrZero || p.Left() != 1 {
		t.Error("the limit 0", d, e)
	}
	for _, p := range []*tape.Tape{nil, {}} {
		if d, e := Take(p, 5); d != (api.Draw{}) || e != api.ErrNil {
			t.Error("no tape", d, e)
		}
		if d, e := Take(p, 0); d != (api.Draw{}) || e != api.ErrZero {
			t.Error("no tape, and the limit 0", d, e)
		}
	}
}

// P38.3, P38.4, G4
func TestAim(t *testing.T) {
	r := rand.New(rand.NewPCG(38, 4))
	for range 5000 {
		n := limit(r)
		l := words(r, n, 1+r.IntN(6))
		kept := slices.Clone(l)
		d, e := Take(tape.New(l), n)
		if e != api.OK {
			if got, e2 := Aim(l, n, n); got != nil || e2 != e {
				t.Fatal("exhausted", l, n, got, e2)
			}
			continue
		}
		if got, e := Aim(l, n, n); got != nil || e != api.ErrDomain {
			t.Fatal("a number that there is not", l, n, got, e)
		}
		v := r.Uint64N(n)
		aimed, e := Aim(l, n, v)
		after, _ := Take(tape.New(aimed), n)
		if e != api.OK || after != (api.Draw{N: v, Rank: d.Rank, Used: d.Used}) {
			t.Fatal("Aim", l, n, v, aimed, e)
		}
		for i := range l {
			if i != d.Used-1 && aimed[i] != l[i] {
				t.Fatal("another word was changed", l, n, v, i)
			}
		}
		if back, e := Aim(aimed, n, d.N); e != api.OK || !slices.Equal(back, l) {
			t.Fatal("not back", l, n, v, back)
		}
		clear(aimed)
		if !slices.Equal(l, kept) {
			t.Fatal("the argument was changed")
		}
	}
	if got, e := Aim([]uint64{1}, 0, 0); got != nil || e != api.ErrZero {
		t.Error("the limit 0", got, e)
	}
	if got, e := Aim(nil, 5, 9); got != nil || e != api.ErrExhausted {
		t.Error("no words", got, e)
	}
}
