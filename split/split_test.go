package split

import (
	"math"
	"math/rand/v2"
	"slices"
	"testing"
)

// P8.1
func TestNext(t *testing.T) {
	if out, s := Next(0); out != 0xe220a8397b1dcdaf || s != Gamma {
		t.Error("the chapter's example", out, s)
	}
	if out, s := Next(1<<64 - 1); s != 0x9e3779b97f4a7c14 || out == 0 {
		t.Error("wraps round", out, s)
	}
	// Published words of SplitMix64 with the seed 1234567.
	want := []uint64{6457827717110365317, 3203168211198807973, 9817491932198370423, 4593380528125082431, 16408922859458223821}
	if got := Words(1234567, 5); !slices.Equal(got, want) {
		t.Error(got)
	}
}

// P8.1
func TestJumpAndBack(t *testing.T) {
	r := rand.New(rand.NewPCG(8, 1))
	for range 2000 {
		s, n, m := r.Uint64(), r.Uint64(), r.Uint64()
		_, next := Next(s)
		if Back(next) != s || Jump(s, 1) != next || Jump(s, 0) != s {
			t.Fatal(s)
		}
		if Jump(Jump(s, n), m) != Jump(s, n+m) {
			t.Fatal("jumps add up", s, n, m)
		}
	}
	s := uint64(77)
	for n := range uint64(500) {
		if Jump(77, n) != s || Steps(77, s) != n {
			t.Fatal("step by step", n)
		}
		_, s = Next(s)
	}
}

// P8.1
func TestWords(t *testing.T) {
	r := rand.New(rand.NewPCG(8, 2))
	for range 50 {
		s := r.Uint64()
		words, at := Words(s, 100), s
		for i, w := range words {
			var out uint64
			out, at = Next(at)
			if out != w {
				t.Fatal(s, i)
			}
		}
	}
	for n, want := range map[int]int{0: 0, -1: 0, math.MinInt: 0, 1: 1, 4095: 4095, 4096: 4096, 4097: 4096, math.MaxInt: 4096} {
		if got := len(Words(5, n)); got != want {
			t.Error(n, got)
		}
	}
}

// P8.2
func TestFullPeriod(t *testing.T) {
	r := rand.New(rand.NewPCG(8, 3))
	for range 2000 {
		s, out := r.Uint64(), r.Uint64()
		before := Before(out)
		if got, _ := Next(before); got != out {
			t.Fatal("Before", out)
		}
		if Jump(s, Steps(s, before)) != before {
			t.Fatal("Steps", s, before)
		}
		if n := r.Uint64(); Steps(s, Jump(s, n)) != n {
			t.Fatal("Steps", s, n)
		}
	}
	if Steps(3, 3) != 0 {
		t.Error("no step")
	}
}
