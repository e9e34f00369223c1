package murmur86

import (
	"bytes"
	"math/bits"
	"math/rand/v2"
	"testing"

	"astragal/api"
	"astragal/mix"
)

func someBytes(r *rand.Rand, n int) []byte {
	b := make([]byte, n)
	for i := range b {
		b[i] = byte(r.Uint32())
	}
	return b
}

func rot(x uint32, n int) uint32 { return bits.RotateLeft32(x, n) }

// number is that of up to 4 bytes from b[at] on.
func number(b []byte, at int) uint32 {
	k := uint32(0)
	for i := 3; i >= 0; i-- {
		k <<= 8
		if at+i < len(b) {
			k |= uint32(b[at+i])
		}
	}
	return k
}

// hash is the chapter's list of steps.
func hash(seed uint32, b []byte) api.U128 {
	const c1, c2, c3, c4 = 0x239b961b, 0xab0e9789, 0x38b34ae5, 0xa1e38b93
	h1, h2, h3, h4 := seed, seed, seed, seed
	n := uint32(len(b))
	for ; len(b) >= 16; b = b[16:] {
		h1 ^= rot(number(b, 0)*c1, 15) * c2
		h1 = (rot(h1, 19)+h2)*5 + 0x561ccd1b
		h2 ^= rot(number(b, 4)*c2, 16) * c3
		h2 = (rot(h2, 17)+h3)*5 + 0x0bcaa747
		h3 ^= rot(number(b, 8)*c3, 17) * c4
		h3 = (rot(h3, 15)+h4)*5 + 0x96cd1c35
		h4 ^= rot(number(b, 12)*c4, 18) * c1
		h4 = (rot(h4, 13)+h1)*5 + 0x32ac3b17
	}
	h1 ^= rot(number(b, 0)*c1, 15) * c2
	h2 ^= rot(number(b, 4)*c2, 16) * c3
	h3 ^= rot(number(b, 8)*c3, 17) * c4
	h4 ^= rot(number(b, 12)*c4, 18) * c1
	h1, h2, h3, h4 = h1^n, h2^n, h3^n, h4^n
	h1 += h2 + h3 + h4
	h2, h3, h4 = h2+h1, h3+h1, h4+h1
	h1, h2, h3, h4 = mix.Fmix32(h1), mix.Fmix32(h2), mix.Fmix32(h3), mix.Fmix32(h4)
	h1 += h2 + h3 + h4
	h2, h3, h4 = h2+h1, h3+h1, h4+h1
	return api.U128{Lo: uint64(h1) | uint64(h2)<<32, Hi: uint64(h3) | uint64(h4)<<32}
}

// P30.1: published values, whose words of 32 bits are written h1 to h4.
func TestPublishedValues(t *testing.T) {
	for _, c := range []struct {
		seed uint32
		text string
		want [4]uint32
	}{
		{0, "", [4]uint32{}},
		{0, "The quick brown fox jumps over the lazy dog", [4]uint32{0x2f1583c3, 0xecee2c67, 0x5d7bf66c, 0xe5e91d2c}},
	} {
		want := api.U128{Lo: uint64(c.want[0]) | uint64(c.want[1])<<32, Hi: uint64(c.want[2]) | uint64(c.want[3])<<32}
		if got := One(c.seed, []byte(c.text)); got != want {
			t.Errorf("%x %q %x", c.seed, c.text, got)
		}
	}
}

// P30.1, P30.2, P30.3, G1
func TestInAnyPieces(t *testing.T) {
	r := rand.New(rand.NewPCG(30, 1))
	for range 500 {
		seed, b := r.Uint32(), someBytes(r, r.IntN(120))
		want := hash(seed, b)
		if got := One(seed, b); got != want {
			t.Fatal("One", seed, b, got, want)
		}
		h, other := New(seed), New(r.Uint32())
		for from := 0; from < len(b); {
			to := min(len(b), from+r.IntN(40))
			h.Write(b[from:to])
			from = to
			if r.IntN(2) == 0 && h.Sum() != hash(seed, b[:from]) {
				t.Fatal("Sum in between", seed, b, from)
			}
			if r.IntN(3) == 0 {
				other.Reset()
				if lanes, long, tail := h.Lanes(); !other.Set(lanes, long, tail) {
					t.Fatal("Set", lanes, long, tail)
				}
				h, other = other, h
			}
			if r.IntN(3) == 0 {
				former := h
				h = h.Clone()
				former.Write([]byte{1})
			}
		}
		if h.Sum() != want || h.Sum() != want {
			t.Fatal("in pieces", seed, b, h.Sum(), want)
		}
	}
}

// P30.2
func TestLanesAndReset(t *testing.T) {
	h := New(5)
	b := []byte("0123456789abcdefxyz")
	h.Write(b)
	// After one block the lanes are what the block made of the seed.
	want := widened(process()(words{5, 5, 5, 5}, b[:16]))
	lanes, long, tail := h.Lanes()
	if lanes != want || long != 19 || !bytes.Equal(tail, []byte("xyz")) {
		t.Error(lanes, long, tail)
	}
	tail[0] = 0
	if _, _, tail := h.Lanes(); !bytes.Equal(tail, []byte("xyz")) {
		t.Error("the tail is shared")
	}
	h.Reset()
	if lanes, long, tail := h.Lanes(); lanes != [4]uint64{5, 5, 5, 5} || long != 0 || len(tail) != 0 || h.Sum() != hash(5, nil) {
		t.Error("after a reset", lanes, long, tail)
	}
}

// P30.2
func TestSet(t *testing.T) {
	h := New(5)
	h.Write([]byte("0123456789abcdefxyz"))
	lanes0, long0, tail0 := h.Lanes()
	for _, c := range []struct {
		lanes [4]uint64
		long  uint64
		tail  []byte
		ok    bool
	}{
		{[4]uint64{1, 2, 3, 4}, 16, []byte{1}, false},
		{[4]uint64{1, 2, 3, 4}, 17, nil, false},
		{[4]uint64{1, 2, 3, 4}, 32, make([]byte, 16), false},
		{[4]uint64{1 << 32}, 16, nil, false},
		{[4]uint64{0, 1 << 32}, 16, nil, false},
		{[4]uint64{0, 0, 1 << 63}, 16, nil, false},
		{[4]uint64{0, 0, 0, 1 << 32}, 16, nil, false},
		{[4]uint64{1<<32 - 1, 0, 1<<32 - 1, 1}, 1<<64 - 1, make([]byte, 15), true},
	} {
		g := h.Clone()
		ok := g.Set(c.lanes, c.long, c.tail)
		lanes, long, tail := g.Lanes()
		if ok != c.ok {
			t.Error(c, ok)
		}
		if ok && (lanes != c.lanes || long != c.long || !bytes.Equal(tail, c.tail)) {
			t.Error("not set", c, lanes, long, tail)
		}
		if !ok && (lanes != lanes0 || long != long0 || !bytes.Equal(tail, tail0)) {
			t.Error("changed", c, lanes, long, tail)
		}
	}
}

// P30.2
func TestNotMade(t *testing.T) {
	for _, h := range []*Hash{nil, {}} {
		h.Write([]byte{1})
		h.Reset()
		lanes, long, tail := h.Lanes()
		if h.Sum() != (api.U128{}) || h.Clone() != nil || lanes != [4]uint64{} || long != 0 || tail != nil || h.Set(lanes, 0, nil) {
			t.Error(h)
		}
	}
}
