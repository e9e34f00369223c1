package sip

import (
	"bytes"
	"math"
	"math/bits"
	"math/rand/v2"
	"testing"

	"astragal/api"
)

func someBytes(r *rand.Rand, n int) []byte {
	b := make([]byte, n)
	for i := range b {
		b[i] = byte(r.Uint32())
	}
	return b
}

func rot(x uint64, n int) uint64 { return bits.RotateLeft64(x, n) }

var kinds = []int{api.Sip24, api.Sip13, api.Sip128}

// hash is the chapter's list of steps.
func hash(kind int, key api.U128, b []byte) api.U128 {
	c, d := 2, 4
	if kind == api.Sip13 {
		c, d = 1, 3
	}
	v0, v1 := key.Lo^0x736f6d6570736575, key.Hi^0x646f72616e646f6d
	v2, v3 := key.Lo^0x6c7967656e657261, key.Hi^0x7465646279746573
	if kind == api.Sip128 {
		v1 ^= 0xee
	}
	rounds := func(n int) {
		for range n {
			v0 += v1
			v1 = rot(v1, 13) ^ v0
			v0 = rot(v0, 32)
			v2 += v3
			v3 = rot(v3, 16) ^ v2
			v0 += v3
			v3 = rot(v3, 21) ^ v0
			v2 += v1
			v1 = rot(v1, 17) ^ v2
			v2 = rot(v2, 32)
		}
	}
	long := len(b)
	for done := false; !done; {
		m := uint64(0)
		for i := min(len(b), 8) - 1; i >= 0; i-- {
			m = m<<8 | uint64(b[i])
		}
		if done = len(b) < 8; done {
			m |= uint64(long%256) << 56
		}
		v3 ^= m
		rounds(c)
		v0 ^= m
		b = b[min(len(b), 8):]
	}
	if kind != api.Sip128 {
		v2 ^= 0xff
		rounds(d)
		return api.U128{Lo: v0 ^ v1 ^ v2 ^ v3}
	}
	v2 ^= 0xee
	rounds(d)
	lo := v0 ^ v1 ^ v2 ^ v3
	v1 ^= 0xdd
	rounds(d)
	return api.U128{Lo: lo, Hi: v0 ^ v1 ^ v2 ^ v3}
}

// P34.1: published values, for the key of the bytes 0 to 15 and the bytes 0, 1, 2 and so on.
func TestPublishedValues(t *testing.T) {
	key := api.U128{Lo: 0x0706050403020100, Hi: 0x0f0e0d0c0b0a0908}
	b := make([]byte, 64)
	for i := range b {
		b[i] = byte(i)
	}
	for n, want := range []uint64{0x726fdb47dd0e0e31, 0x74f839c593dc67fd, 0x0d6c8009d9a94f5a, 0x85676696d7fb7e2d, 0xcf2794e0277187b7, 0x18765564cd99a68d, 0xcbc9466e58fee3ce, 0xab0200f58b01d137, 0x93f5f5799a932462} {
		if got := One(api.Sip24, key, b[:n]); got != (api.U128{Lo: want}) {
			t.Errorf("%d %x", n, got)
		}
	}
	if got := One(api.Sip24, key, b[:15]); got != (api.U128{Lo: 0xa129ca6149be45e5}) {
		t.Errorf("15 %x", got)
	}
	// The published results of 16 bytes are a3817f04ba25a8e6 6df67214c7550293 and da87c1d86b99af44 347659119b22fc45.
	for n, want := range []api.U128{{Lo: 0xe6a825ba047f81a3, Hi: 0x930255c71472f66d}, {Lo: 0x44af996bd8c187da, Hi: 0x45fc229b11597634}} {
		if got := One(api.Sip128, key, b[:n]); got != want {
			t.Errorf("%d %x", n, got)
		}
	}
	if got := One(api.Sip13, key, nil); got != (api.U128{Lo: 0xabac0158050fc4dc}) {
		t.Errorf("Sip13 %x", got)
	}
}

// P34.1, P34.2
func TestOtherKinds(t *testing.T) {
	for _, kind := range []int{0, -1, api.Xx64, 9, math.MinInt, math.MaxInt} {
		if One(kind, api.U128{Lo: 1}, []byte{1}) != (api.U128{}) || New(kind, api.U128{}) != nil {
			t.Error(kind)
		}
	}
}

// P34.1, P34.2, P34.3, G1
func TestInAnyPieces(t *testing.T) {
	r := rand.New(rand.NewPCG(34, 1))
	for i := range 900 {
		kind, key := kinds[i%3], api.U128{Hi: r.Uint64(), Lo: r.Uint64()}
		b := someBytes(r, r.IntN(60))
		if r.IntN(20) == 0 {
			b = someBytes(r, 250+r.IntN(300))
		}
		want := hash(kind, key, b)
		if got := One(kind, key, b); got != want {
			t.Fatal("One", kind, key, b, got, want)
		}
		h, other := New(kind, key), New(kind, api.U128{Lo: r.Uint64()})
		for from := 0; from < len(b); {
			to := min(len(b), from+r.IntN(20))
			h.Write(b[from:to])
			from = to
			if r.IntN(2) == 0 && h.Sum() != hash(kind, key, b[:from]) {
				t.Fatal("Sum in between", kind, key, b, from)
			}
			if r.IntN(3) == 0 {
				other.Reset()
				if lanes, long, tail := h.Lanes(); !other.Set(lanes, long, tail) {
					t.Fatal("Set", lanes, long, tail)
				}
				h, other = other, h
			}
			if r.IntN(3) == 0 {
				former := h
				h = h.Clone()
				former.Write([]byte{1})
			}
		}
		if h.Sum() != want || h.Sum() != want {
			t.Fatal("in pieces", kind, key, b, h.Sum(), want)
		}
	}
}

// P34.2
func TestLanesAndReset(t *testing.T) {
	for _, kind := range kinds {
		v, _ := variantOf(kind)
		h := New(kind, api.U128{Hi: 3, Lo: 5})
		first := v.start(api.U128{Hi: 3, Lo: 5})
		if first[0] != 5^0x736f6d6570736575 || first[3] != 3^0x7465646279746573 || (kind == api.Sip128) != (first[1] == 3^0x646f72616e646f6d^0xee) {
			t.Error("the lanes of a new one", kind, first)
		}
		h.Write([]byte("01234567xyz"))
		all, long, tail := h.Lanes()
		if all != v.step(first, []byte("01234567")) || long != 11 || !bytes.Equal(tail, []byte("xyz")) {
			t.Error(kind, all, long, tail)
		}
		tail[0] = 0
		if _, _, tail := h.Lanes(); !bytes.Equal(tail, []byte("xyz")) {
			t.Error("the tail is shared")
		}
		h.Reset()
		if all, long, tail := h.Lanes(); all != first || long != 0 || len(tail) != 0 || h.Sum() != hash(kind, api.U128{Hi: 3, Lo: 5}, nil) {
			t.Error("after a reset", kind, all, long, tail)
		}
	}
}

// P34.2
func TestSet(t *testing.T) {
	h := New(api.Sip24, api.U128{Lo: 5})
	h.Write([]byte("01234567xyz"))
	lanes0, long0, tail0 := h.Lanes()
	for _, c := range []struct {
		lanes [4]uint64
		long  uint64
		tail  []byte
		ok    bool
	}{
		{[4]uint64{1, 2, 3, 4}, 8, []byte{1}, false},
		{[4]uint64{1, 2, 3, 4}, 9, nil, false},
		{[4]uint64{1, 2, 3, 4}, 16, make([]byte, 8), false},
		{[4]uint64{1 << 63, 1<<64 - 1, 0, 1}, 1<<64 - 1, make([]byte, 7), true},
	} {
		g := h.Clone()
		ok := g.Set(c.lanes, c.long, c.tail)
		lanes, long, tail := g.Lanes()
		if ok != c.ok {
			t.Error(c, ok)
		}
		if ok && (lanes != c.lanes || long != c.long || !bytes.Equal(tail, c.tail)) {
			t.Error("not set", c, lanes, long, tail)
		}
		if !ok && (lanes != lanes0 || long != long0 || !bytes.Equal(tail, tail0)) {
			t.Error("changed", c, lanes, long, tail)
		}
	}
}

// P34.2
func TestNotMade(t *testing.T) {
	for _, h := range []*Hash{nil, {}} {
		h.Write([]byte{1})
		h.Reset()
		lanes, long, tail := h.Lanes()
		if h.Sum() != (api.U128{}) || h.Clone() != nil || lanes != [4]uint64{} || long != 0 || tail != nil || h.Set(lanes, 0, nil) {
			t.Error(h)
		}
	}
}
