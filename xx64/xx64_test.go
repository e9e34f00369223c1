package xx64

import (
	"bytes"
	"math/bits"
	"math/rand/v2"
	"testing"
)

func someBytes(r *rand.Rand, n int) []byte {
	b := make([]byte, n)
	for i := range b {
		b[i] = byte(r.Uint32())
	}
	return b
}

func rot(x uint64, n int) uint64 { return bits.RotateLeft64(x, n) }

// hash is the chapter's list of steps.
func hash(seed uint64, b []byte) uint64 {
	var p1, p2, p3, p4, p5 uint64 = 11400714785074694791, 14029467366897019727, 1609587929392839161, 9650029242287828579, 2870177450012600261
	n := uint64(len(b))
	h := seed + p5
	number := func(at, size int) uint64 {
		k := uint64(0)
		for i := size - 1; i >= 0; i-- {
			k = k<<8 | uint64(b[at+i])
		}
		return k
	}
	round := func(v, k uint64) uint64 { return rot(v+k*p2, 31) * p1 }
	if len(b) >= 32 {
		v1, v2, v3, v4 := seed+p1+p2, seed+p2, seed, seed-p1
		for ; len(b) >= 32; b = b[32:] {
			v1, v2, v3, v4 = round(v1, number(0, 8)), round(v2, number(8, 8)), round(v3, number(16, 8)), round(v4, number(24, 8))
		}
		h = rot(v1, 1) + rot(v2, 7) + rot(v3, 12) + rot(v4, 18)
		for _, v := range []uint64{v1, v2, v3, v4} {
			h = (h^round(0, v))*p1 + p4
		}
	}
	h += n
	for ; len(b) >= 8; b = b[8:] {
		h = rot(h^round(0, number(0, 8)), 27)*p1 + p4
	}
	if len(b) >= 4 {
		h = rot(h^number(0, 4)*p1, 23)*p2 + p3
		b = b[4:]
	}
	for _, c := range b {
		h = rot(h^uint64(c)*p5, 11) * p1
	}
	h = (h ^ h>>33) * p2
	h = (h ^ h>>29) * p3
	return h ^ h>>32
}

// P33.1: published values.
func TestPublishedValues(t *testing.T) {
	for _, c := range []struct {
		seed uint64
		text string
		want uint64
	}{
		{0, "", 0xef46db3751d8e999},
		{0, "a", 0xd24ec4f1a98c6e5b},
		{0, "abc", 0x44bc2cf5ad770999},
		{0, "xxhash", 0x32dd38952c4bc720},
		{20141025, "xxhash", 0xb559b98d844e0635},
		{0, "Nobody inspects the spammish repetition", 0xfbcea83c8a378bf1},
	} {
		if got := One(c.seed, []byte(c.text)); got != c.want {
			t.Errorf("%x %q %x", c.seed, c.text, got)
		}
	}
}

// P33.1, P33.2, P33.3, G1
func TestInAnyPieces(t *testing.T) {
	r := rand.New(rand.NewPCG(33, 1))
	for range 500 {
		seed, b := r.Uint64(), someBytes(r, r.IntN(200))
		want := hash(seed, b)
		if got := One(seed, b); got != want {
			t.Fatal("One", seed, b, got, want)
		}
		h, other := New(seed), New(r.Uint64())
		for from := 0; from < len(b); {
			to := min(len(b), from+r.IntN(40))
			h.Write(b[from:to])
			from = to
			if r.IntN(2) == 0 && h.Sum() != hash(seed, b[:from]) {
				t.Fatal("Sum in between", seed, b, from)
			}
			if r.IntN(3) == 0 {
				other.Reset()
				if lanes, long, tail := h.Lanes(); !other.Set(lanes, long, tail) {
					t.Fatal("Set", lanes, long, tail)
				}
				h, other = other, h
			}
			if r.IntN(3) == 0 {
				former := h
				h = h.Clone()
				former.Write([]byte{1})
			}
		}
		if h.Sum() != want || h.Sum() != want {
			t.Fatal("in pieces", seed, b, h.Sum(), want)
		}
	}
}

// P33.2
func TestLanesAndReset(t *testing.T) {
	h := New(5)
	b := []byte("0123456789abcdef0123456789ABCDEFxyz")
	h.Write(b)
	// After one block the lanes are what the block made of those of the seed.
	want := widened(step(start(5), b[:32]))
	if start(5) != ([4]lane{6983438078262162907, 14029467366897019732, 5, 7046029288634856830}) {
		t.Error("the lanes of a new one", start(5))
	}
	all, long, tail := h.Lanes()
	if all != want || long != 35 || !bytes.Equal(tail, []byte("xyz")) {
		t.Error(all, long, tail)
	}
	tail[0] = 0
	if _, _, tail := h.Lanes(); !bytes.Equal(tail, []byte("xyz")) {
		t.Error("the tail is shared")
	}
	h.Reset()
	if all, long, tail := h.Lanes(); all != widened(start(5)) || long != 0 || len(tail) != 0 || h.Sum() != hash(5, nil) {
		t.Error("after a reset", all, long, tail)
	}
}

// P33.2
func TestSet(t *testing.T) {
	h := New(5)
	h.Write([]byte("0123456789abcdef0123456789ABCDEFxyz"))
	lanes0, long0, tail0 := h.Lanes()
	for _, c := range []struct {
		lanes [4]uint64
		long  uint64
		tail  []byte
		ok    bool
	}{
		{[4]uint64{1, 2, 3, 4}, 32, []byte{1}, false},
		{[4]uint64{1, 2, 3, 4}, 33, nil, false},
		{[4]uint64{1, 2, 3, 4}, 64, make([]byte, 32), false},
		{[4]uint64{1, 2, 3, 4}, 40, make([]byte, 40), false},
		{[4]uint64{1 << 63, 1<<64 - 1, 0, 1}, 1<<64 - 1, make([]byte, 31), true},
	} {
		g := h.Clone()
		ok := g.Set(c.lanes, c.long, c.tail)
		lanes, long, tail := g.Lanes()
		if ok != c.ok {
			t.Error(c, ok)
		}
		if ok && (lanes != c.lanes || long != c.long || !bytes.Equal(tail, c.tail)) {
			t.Error("not set", c, lanes, long, tail)
		}
		if !ok && (lanes != lanes0 || long != long0 || !bytes.Equal(tail, tail0)) {
			t.Error("changed", c, lanes, long, tail)
		}
	}
}

// P33.2
func TestNotMade(t *testing.T) {
	for _, h := range []*Hash{nil, {}} {
		h.Write([]byte{1})
		h.Reset()
		lanes, long, tail := h.Lanes()
		if h.Sum() != 0 || h.Clone() != nil || lanes != [4]uint64{} || long != 0 || tail != nil || h.Set(lanes, 0, nil) {
			t.Error(h)
		}
	}
}
