package pcg32

import (
	"math"
	"math/rand/v2"
	"slices"
	"testing"
)

// P13.1: published words for the seed 42, 54.
func TestPublishedWords(t *testing.T) {
	s, inc := Seed(42, 54)
	want := []uint32{0xa15c02b7, 0x7b47f409, 0xba1d3330, 0x83d2f293, 0xbfa4784b, 0xcbed606e}
	if got := Told(s, inc, 6); !slices.Equal(got, want) {
		t.Errorf("%x", got)
	}
	if inc != 109 {
		t.Error("the increment", inc)
	}
}

// P13.1
func TestStepBackOut(t *testing.T) {
	r := rand.New(rand.NewPCG(13, 1))
	for range 5000 {
		s, inc := r.Uint64()>>r.IntN(64), r.Uint64()>>r.IntN(64)
		if Step(s, inc) != s*6364136223846793005+(inc|1) {
			t.Fatal("Step", s, inc)
		}
		if Step(s, inc&^1) != Step(s, inc|1) {
			t.Fatal("the lowest bit of inc", s, inc)
		}
		if Back(Step(s, inc), inc) != s || Step(Back(s, inc), inc) != s || Back(s, inc&^1) != Back(s, inc|1) {
			t.Fatal("Back", s, inc)
		}
		x, n := uint32((s>>18^s)>>27), s>>59
		want := x
		for range n {
			want = want>>1 | want<<31
		}
		if Out(s) != want {
			t.Fatal("Out", s)
		}
		first, stream := r.Uint64(), r.Uint64()
		state, increment := Seed(first, stream)
		if increment != 2*stream+1 || state != Step(Step(0, increment)+first, increment) {
			t.Fatal("Seed", first, stream)
		}
	}
}

// P13.1
func TestTold(t *testing.T) {
	s := uint64(5)
	for i, out := range Told(5, 6, 100) {
		if out != Out(s) {
			t.Fatal(i)
		}
		s = Step(s, 6)
	}
	for n, want := range map[int]int{0: 0, -1: 0, math.MinInt: 0, 4096: 4096, 4097: 4096, math.MaxInt: 4096} {
		if got := len(Told(1, 2, n)); got != want {
			t.Error(n, got)
		}
	}
}

// P13.2
func TestAdvance(t *testing.T) {
	r := rand.New(rand.NewPCG(13, 2))
	for range 20 {
		s, inc := r.Uint64(), r.Uint64()
		at := s
		for n := range uint64(300) {
			if Advance(s, inc, n) != at || Steps(s, at, inc) != n {
				t.Fatal(s, inc, n)
			}
			at = Step(at, inc)
		}
		if Advance(s, inc, 1<<64-1) != Back(s, inc) || Advance(s, inc&^1, 77) != Advance(s, inc|1, 77) {
			t.Fatal("one step back", s, inc)
		}
	}
}

// P13.3
func TestFullPeriod(t *testing.T) {
	r := rand.New(rand.NewPCG(13, 3))
	for range 2000 {
		s, u, inc, n, m := r.Uint64(), r.Uint64()>>r.IntN(64), r.Uint64(), r.Uint64(), r.Uint64()
		if Advance(s, inc, Steps(s, u, inc)) != u {
			t.Fatal("not reached", s, u, inc)
		}
		if Steps(s, Advance(s, inc, n), inc) != n {
			t.Fatal("another number of steps", s, inc, n)
		}
		if Advance(Advance(s, inc, n), inc, m) != Advance(s, inc, n+m) {
			t.Fatal("steps add up", s, inc, n, m)
		}
	}
}
