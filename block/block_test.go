package block

import (
	"bytes"
	"fmt"
	"math"
	"math/rand/v2"
	"testing"
)

// log is a state that tells all blocks.
func log(s string, b []byte) string { return s + fmt.Sprint(b) }

func someBytes(r *rand.Rand, n int) []byte {
	b := make([]byte, n)
	for i := range b {
		b[i] = byte(r.Uint32())
	}
	return b
}

// folded is the definition of the chapter.
func folded(size int, b []byte) (string, []byte) {
	size = min(max(size, 1), 64)
	s := "first"
	for len(b) >= size {
		s = log(s, b[:size])
		b = b[size:]
	}
	return s, b
}

// P28.1, P28.4, G1
func TestInAnyPieces(t *testing.T) {
	r := rand.New(rand.NewPCG(28, 1))
	for _, size := range []int{math.MinInt, -1, 0, 1, 2, 3, 4, 8, 16, 63, 64, 65, math.MaxInt} {
		for range 60 {
			b := someBytes(r, r.IntN(200))
			s := New(size, "first", log)
			for from := 0; from < len(b); {
				to := min(len(b), from+r.IntN(90))
				s.Write(b[from:to])
				from = to
				state, tail := folded(size, b[:from])
				if s.State() != state || !bytes.Equal(s.Tail(), tail) || s.Long() != uint64(from) {
					t.Fatal(size, from, s.State(), s.Tail(), s.Long())
				}
			}
			state, tail := Fold(size, "first", log, b)
			want, wantTail := folded(size, b)
			if state != want || !bytes.Equal(tail, wantTail) {
				t.Fatal("Fold", size, b, state, tail)
			}
			if s.State() != want || !bytes.Equal(s.Tail(), wantTail) {
				t.Fatal("in pieces", size, b)
			}
		}
	}
	s := New(2, 0, func(n int, b []byte) int { return n + 1 })
	s.Write([]byte{1, 2, 3})
	if s.State() != 1 || !bytes.Equal(s.Tail(), []byte{3}) {
		t.Error("the chapter's example", s.State(), s.Tail())
	}
}

// P28.1
func TestResetAndClone(t *testing.T) {
	s := New(4, "first", log)
	s.Write([]byte{1, 2, 3, 4, 5, 6})
	c := s.Clone()
	s.Write([]byte{7, 8, 9})
	if c.State() != "first[1 2 3 4]" || !bytes.Equal(c.Tail(), []byte{5, 6}) || c.Long() != 6 {
		t.Error("the clone changed", c.State(), c.Tail(), c.Long())
	}
	c.Write([]byte{0, 0})
	if s.State() != "first[1 2 3 4][5 6 7 8]" || !bytes.Equal(s.Tail(), []byte{9}) || c.State() != "first[1 2 3 4][5 6 0 0]" {
		t.Error("not independent", s.State(), c.State())
	}
	s.Reset()
	if s.State() != "first" || len(s.Tail()) != 0 || s.Long() != 0 {
		t.Error("not as new", s.State(), s.Tail(), s.Long())
	}
	s.Write([]byte{1, 2, 3, 4})
	if s.State() != "first[1 2 3 4]" {
		t.Error("after a reset", s.State())
	}
	c.Set("other", 3, []byte{1, 2, 3})
	c.Reset()
	if c.State() != "first" || len(c.Tail()) != 0 || c.Long() != 0 {
		t.Error("a reset after Set", c.State())
	}
}

// P28.1: a step that is nil, or that panics, changes no state.
func TestOddSteps(t *testing.T) {
	s := New[int](2, 7, nil)
	s.Write([]byte{1, 2, 3})
	if s.State() != 7 || !bytes.Equal(s.Tail(), []byte{3}) || s.Long() != 3 {
		t.Error("nil", s.State(), s.Tail(), s.Long())
	}
	if state, tail := Fold[int](2, 7, nil, []byte{1, 2, 3}); state != 7 || !bytes.Equal(tail, []byte{3}) {
		t.Error("nil", state, tail)
	}
	u := New(1, 0, func(n int, b []byte) int {
		if b[0] == 2 {
			panic("two")
		}
		return n + int(b[0])
	})
	u.Write([]byte{1, 2, 4})
	if u.State() != 5 || u.Long() != 3 {
		t.Error("panic", u.State(), u.Long())
	}
}

// P28.2
func TestSet(t *testing.T) {
	s := New(4, "first", log)
	s.Write([]byte{1, 2, 3, 4, 5})
	for long := range uint64(12) {
		for n := range 6 {
			c := s.Clone()
			tail := bytes.Repeat([]byte{9}, n)
			ok := c.Set("other", long, tail)
			switch {
			case ok != (uint64(n) == long%4):
				t.Fatal(long, n, ok)
			case ok && (c.State() != "other" || c.Long() != long || !bytes.Equal(c.Tail(), tail)):
				t.Fatal("not set", long, n)
			case !ok && (c.State() != "first[1 2 3 4]" || c.Long() != 5 || !bytes.Equal(c.Tail(), []byte{5})):
				t.Fatal("changed", long, n)
			}
		}
	}
	if !s.Set("x", 1<<64-1, []byte{1, 2, 3}) || s.Long() != 1<<64-1 {
		t.Error("the greatest number of bytes")
	}
	s.Write([]byte{4, 5})
	if s.Long() != 1 || s.State() != "x[1 2 3 4]" || !bytes.Equal(s.Tail(), []byte{5}) {
		t.Error("modulo 2^64", s.Long(), s.State())
	}
}

// P28.3
func TestNotMade(t *testing.T) {
	for _, s := range []*Stream[string]{nil, {}} {
		s.Write([]byte{1})
		s.Reset()
		if s.State() != "" || s.Tail() != nil || s.Long() != 0 || s.Clone() != nil || s.Set("x", 0, nil) || s.State() != "" {
			t.Error(s)
		}
	}
}

// P28.1, P28.2 with P2
func TestNothingIsShared(t *testing.T) {
	b := []byte{1, 2, 3, 4, 5, 6, 7, 8}
	var kept [][]byte
	keep := func(n int, block []byte) int {
		kept = append(kept, block)
		_ = append(block, 99)
		block[0] = 77
		return n
	}
	s := New(2, 0, keep)
	s.Write(b[:3])
	s.Write(b[3:7])
	Fold(2, 0, keep, b[:7])
	if !bytes.Equal(b, []byte{1, 2, 3, 4, 5, 6, 7, 8}) {
		t.Error("an argument was changed", b)
	}
	for i, block := range kept {
		if len(block) != 2 || cap(block) != 2 || block[0] != 77 || block[1] != b[(2*i+1)%6] {
			t.Error("a block was changed later", i, block)
		}
	}
	tail := s.Tail()
	tail[0] = 55
	if s.Tail()[0] != 7 {
		t.Error("the tail is shared")
	}
	mine := []byte{1}
	s.Set(0, 1, mine)
	mine[0] = 2
	if s.Tail()[0] != 1 {
		t.Error("the argument of Set is kept")
	}
}
