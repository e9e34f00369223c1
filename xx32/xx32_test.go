package xx32

import (
	"bytes"
	"math/bits"
	"math/rand/v2"
	"testing"
)

func someBytes(r *rand.Rand, n int) []byte {
	b := make([]byte, n)
	for i := range b {
		b[i] = byte(r.Uint32())
	}
	return b
}

func rot(x uint32, n int) uint32 { return bits.RotateLeft32(x, n) }

// hash is the chapter's list of steps.
func hash(seed uint32, b []byte) uint32 {
	var p1, p2, p3, p4, p5 uint32 = 2654435761, 2246822519, 3266489917, 668265263, 374761393
	n := uint32(len(b))
	h := seed + p5
	number := func(at int) uint32 {
		return uint32(b[at]) | uint32(b[at+1])<<8 | uint32(b[at+2])<<16 | uint32(b[at+3])<<24
	}
	if len(b) >= 16 {
		v1, v2, v3, v4 := seed+p1+p2, seed+p2, seed, seed-p1
		for ; len(b) >= 16; b = b[16:] {
			v1 = rot(v1+number(0)*p2, 13) * p1
			v2 = rot(v2+number(4)*p2, 13) * p1
			v3 = rot(v3+number(8)*p2, 13) * p1
			v4 = rot(v4+number(12)*p2, 13) * p1
		}
		h = rot(v1, 1) + rot(v2, 7) + rot(v3, 12) + rot(v4, 18)
	}
	h += n
	for ; len(b) >= 4; b = b[4:] {
		h = rot(h+number(0)*p3, 17) * p4
	}
	for _, c := range b {
		h = rot(h+uint32(c)*p5, 11) * p1
	}
	h = (h ^ h>>15) * p2
	h = (h ^ h>>13) * p3
	return h ^ h>>16
}

// P32.1: published values.
func TestPublishedValues(t *testing.T) {
	for _, c := range []struct {
		seed uint32
		text string
		want uint32
	}{
		{0, "", 0x02cc5d05},
		{0, "a", 0x550d7456},
		{0, "abc", 0x32d153ff},
		{2654435761, "", 0x36b78ae7},
		{0, "Nobody inspects the spammish repetition", 0xe2293b2f},
	} {
		if got := One(c.seed, []byte(c.text)); got != c.want {
			t.Errorf("%x %q %x", c.seed, c.text, got)
		}
	}
}

// P32.1, P32.2, P32.3, G1
func TestInAnyPieces(t *testing.T) {
	r := rand.New(rand.NewPCG(32, 1))
	for range 500 {
		seed, b := r.Uint32(), someBytes(r, r.IntN(120))
		want := hash(seed, b)
		if got := One(seed, b); got != want {
			t.Fatal("One", seed, b, got, want)
		}
		h, other := New(seed), New(r.Uint32())
		for from := 0; from < len(b); {
			to := min(len(b), from+r.IntN(40))
			h.Write(b[from:to])
			from = to
			if r.IntN(2) == 0 && h.Sum() != hash(seed, b[:from]) {
				t.Fatal("Sum in between", seed, b, from)
			}
			if r.IntN(3) == 0 {
				other.Reset()
				if lanes, long, tail := h.Lanes(); !other.Set(lanes, long, tail) {
					t.Fatal("Set", lanes, long, tail)
				}
				h, other = other, h
			}
			if r.IntN(3) == 0 {
				former := h
				h = h.Clone()
				former.Write([]byte{1})
			}
		}
		if h.Sum() != want || h.Sum() != want {
			t.Fatal("in pieces", seed, b, h.Sum(), want)
		}
	}
}

// P32.2
func TestLanesAndReset(t *testing.T) {
	h := New(5)
	b := []byte("0123456789abcdefxyz")
	h.Write(b)
	// After one block the lanes are what the block made of those of the seed.
	want := widened(step(start(5), b[:16]))
	if start(5) != (state{606290989, 2246822524, 5, 1640531540}) {
		t.Error("the lanes of a new one", start(5))
	}
	all, long, tail := h.Lanes()
	if all != want || long != 19 || !bytes.Equal(tail, []byte("xyz")) {
		t.Error(all, long, tail)
	}
	tail[0] = 0
	if _, _, tail := h.Lanes(); !bytes.Equal(tail, []byte("xyz")) {
		t.Error("the tail is shared")
	}
	h.Reset()
	if all, long, tail := h.Lanes(); all != widened(start(5)) || long != 0 || len(tail) != 0 || h.Sum() != hash(5, nil) {
		t.Error("after a reset", all, long, tail)
	}
}

// P32.2
func TestSet(t *testing.T) {
	h := New(5)
	h.Write([]byte("0123456789abcdefxyz"))
	lanes0, long0, tail0 := h.Lanes()
	for _, c := range []struct {
		lanes [4]uint64
		long  uint64
		tail  []byte
		ok    bool
	}{
		{[4]uint64{1, 2, 3, 4}, 16, []byte{1}, false},
		{[4]uint64{1, 2, 3, 4}, 17, nil, false},
		{[4]uint64{1, 2, 3, 4}, 32, make([]byte, 16), false},
		{[4]uint64{1 << 32}, 16, nil, false},
		{[4]uint64{0, 1 << 32}, 16, nil, false},
		{[4]uint64{0, 0, 1 << 63}, 16, nil, false},
		{[4]uint64{0, 0, 0, 1 << 32}, 16, nil, false},
		{[4]uint64{1<<32 - 1, 0, 1<<32 - 1, 1}, 1<<64 - 1, make([]byte, 15), true},
	} {
		g := h.Clone()
		ok := g.Set(c.lanes, c.long, c.tail)
		lanes, long, tail := g.Lanes()
		if ok != c.ok {
			t.Error(c, ok)
		}
		if ok && (lanes != c.lanes || long != c.long || !bytes.Equal(tail, c.tail)) {
			t.Error("not set", c, lanes, long, tail)
		}
		if !ok && (lanes != lanes0 || long != long0 || !bytes.Equal(tail, tail0)) {
			t.Error("changed", c, lanes, long, tail)
		}
	}
}

// P32.2
func TestNotMade(t *testing.T) {
	for _, h := range []*Hash{nil, {}} {
		h.Write([]byte{1})
		h.Reset()
		lanes, long, tail := h.Lanes()
		if h.Sum() != 0 || h.Clone() != nil || lanes != [4]uint64{} || long != 0 || tail != nil || h.Set(lanes, 0, nil) {
			t.Error(h)
		}
	}
}
