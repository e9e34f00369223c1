package murmur64

import (
	"bytes"
	"math/bits"
	"math/rand/v2"
	"testing"

	"astragal/api"
	"astragal/mix"
)

func someBytes(r *rand.Rand, n int) []byte {
	b := make([]byte, n)
	for i := range b {
		b[i] = byte(r.Uint32())
	}
	return b
}

// number is that of up to 8 bytes from b[at] on.
func number(b []byte, at int) uint64 {
	k := uint64(0)
	for i := 7; i >= 0; i-- {
		k <<= 8
		if at+i < len(b) {
			k |= uint64(b[at+i])
		}
	}
	return k
}

// hash is the chapter's list of steps.
func hash(seed uint32, b []byte) api.U128 {
	const c1, c2 = 0x87c37b91114253d5, 0x4cf5ad432745937f
	rot := bits.RotateLeft64
	h1, h2, n := uint64(seed), uint64(seed), uint64(len(b))
	for ; len(b) >= 16; b = b[16:] {
		h1 ^= rot(number(b, 0)*c1, 31) * c2
		h1 = (rot(h1, 27)+h2)*5 + 0x52dce729
		h2 ^= rot(number(b, 8)*c2, 33) * c1
		h2 = (rot(h2, 31)+h1)*5 + 0x38495ab5
	}
	h1 ^= rot(number(b, 0)*c1, 31) * c2
	h2 ^= rot(number(b, 8)*c2, 33) * c1
	h1, h2 = h1^n, h2^n
	h1 += h2
	h2 += h1
	h1, h2 = mix.Fmix64(h1), mix.Fmix64(h2)
	h1 += h2
	h2 += h1
	return api.U128{Lo: h1, Hi: h2}
}

// P31.1: published values.
func TestPublishedValues(t *testing.T) {
	for _, c := range []struct {
		seed uint32
		text string
		want api.U128
	}{
		{0, "", api.U128{}},
		{0, "The quick brown fox jumps over the lazy dog", api.U128{Lo: 0xe34bbc7bbc071b6c, Hi: 0x7a433ca9c49a9347}},
		{0, "hello", api.U128{Lo: 0xcbd8a7b341bd9b02, Hi: 0x5b1e906a48ae1d19}},
		{0, "hello, world", api.U128{Lo: 0x342fac623a5ebc8e, Hi: 0x4cdcbc079642414d}},
	} {
		if got := One(c.seed, []byte(c.text)); got != c.want {
			t.Errorf("%x %q %x", c.seed, c.text, got)
		}
	}
}

// P31.1, P31.2, P31.3, G1
func TestInAnyPieces(t *testing.T) {
	r := rand.New(rand.NewPCG(31, 1))
	for range 500 {
		seed, b := r.Uint32(), someBytes(r, r.IntN(120))
		want := hash(seed, b)
		if got := One(seed, b); got != want {
			t.Fatal("One", seed, b, got, want)
		}
		h, other := New(seed), New(r.Uint32())
		for from := 0; from < len(b); {
			to := min(len(b), from+r.IntN(40))
			h.Write(b[from:to])
			from = to
			if r.IntN(2) == 0 && h.Sum() != hash(seed, b[:from]) {
				t.Fatal("Sum in between", seed, b, from)
			}
			if r.IntN(3) == 0 {
				other.Reset()
				if lanes, long, tail := h.Lanes(); !other.Set(lanes, long, tail) {
					t.Fatal("Set", lanes, long, tail)
				}
				h, other = other, h
			}
			if r.IntN(3) == 0 {
				former := h
				h = h.Clone()
				former.Write([]byte{1})
			}
		}
		if h.Sum() != want || h.Sum() != want {
			t.Fatal("in pieces", seed, b, h.Sum(), want)
		}
	}
}

// P31.2
func TestLanesAndReset(t *testing.T) {
	h := New(5)
	b := []byte("0123456789abcdefxyz")
	h.Write(b)
	// After one block the lanes are what the block made of the seed.
	first := step(state{5, 5}, b[:16])
	want := [4]uint64{first[0], first[1]}
	all, long, tail := h.Lanes()
	if all != want || long != 19 || !bytes.Equal(tail, []byte("xyz")) {
		t.Error(all, long, tail)
	}
	tail[0] = 0
	if _, _, tail := h.Lanes(); !bytes.Equal(tail, []byte("xyz")) {
		t.Error("the tail is shared")
	}
	h.Reset()
	if lanes, long, tail := h.Lanes(); lanes != [4]uint64{5, 5} || long != 0 || len(tail) != 0 || h.Sum() != hash(5, nil) {
		t.Error("after a reset", lanes, long, tail)
	}
}

// P31.2
func TestSet(t *testing.T) {
	h := New(5)
	h.Write([]byte("0123456789abcdefxyz"))
	lanes0, long0, tail0 := h.Lanes()
	for _, c := range []struct {
		lanes [4]uint64
		long  uint64
		tail  []byte
		ok    bool
	}{
		{[4]uint64{1, 2}, 16, []byte{1}, false},
		{[4]uint64{1, 2}, 17, nil, false},
		{[4]uint64{1, 2}, 32, make([]byte, 16), false},
		{[4]uint64{1, 2, 1}, 16, nil, false},
		{[4]uint64{1, 2, 0, 1}, 16, nil, false},
		{[4]uint64{1<<64 - 1, 1 << 63}, 1<<64 - 1, make([]byte, 15), true},
	} {
		g := h.Clone()
		ok := g.Set(c.lanes, c.long, c.tail)
		lanes, long, tail := g.Lanes()
		if ok != c.ok {
			t.Error(c, ok)
		}
		if ok && (lanes != c.lanes || long != c.long || !bytes.Equal(tail, c.tail)) {
			t.Error("not set", c, lanes, long, tail)
		}
		if !ok && (lanes != lanes0 || long != long0 || !bytes.Equal(tail, tail0)) {
			t.Error("changed", c, lanes, long, tail)
		}
	}
}

// P31.2
func TestNotMade(t *testing.T) {
	for _, h := range []*Hash{nil, {}} {
		h.Write([]byte{1})
		h.Reset()
		lanes, long, tail := h.Lanes()
		if h.Sum() != (api.U128{}) || h.Clone() != nil || lanes != [4]uint64{} || long != 0 || tail != nil || h.Set(lanes, 0, nil) {
			t.Error(h)
		}
	}
}
