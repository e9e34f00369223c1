package murmur32

import (
	"bytes"
	"math/bits"
	"math/rand/v2"
	"testing"

	"astragal/mix"
)

func someBytes(r *rand.Rand, n int) []byte {
	b := make([]byte, n)
	for i := range b {
		b[i] = byte(r.Uint32())
	}
	return b
}

// hash is the chapter's list of steps.
func hash(seed uint32, b []byte) uint32 {
	h, long := seed, len(b)
	scramble := func(k uint32) uint32 { return bits.RotateLeft32(k*0xcc9e2d51, 15) * 0x1b873593 }
	for ; len(b) >= 4; b = b[4:] {
		k := uint32(b[0]) | uint32(b[1])<<8 | uint32(b[2])<<16 | uint32(b[3])<<24
		h = bits.RotateLeft32(h^scramble(k), 13)*5 + 0xe6546b64
	}
	k := uint32(0)
	for i, c := range b {
		k |= uint32(c) << (8 * i)
	}
	if len(b) > 0 {
		h ^= scramble(k)
	}
	return mix.Fmix32(h ^ uint32(long))
}

// P29.1: published values.
func TestPublishedValues(t *testing.T) {
	for _, c := range []struct {
		seed uint32
		text string
		want uint32
	}{
		{0, "", 0},
		{1, "", 0x514e28b7},
		{0xffffffff, "", 0x81f16f39},
		{0, "\xff\xff\xff\xff", 0x76293b50},
		{0, "\x21\x43\x65\x87", 0xf55b516b},
		{0x5082edee, "\x21\x43\x65\x87", 0x2362f9de},
		{0, "\x21\x43\x65", 0x7e4a8634},
		{0, "\x21\x43", 0xa0f7b07a},
		{0, "\x21", 0x72661cf4},
		{0, "\x00\x00\x00\x00", 0x2362f9de},
		{0, "\x00\x00\x00", 0x85f0b427},
		{0, "\x00\x00", 0x30f4c306},
		{0, "\x00", 0x514e28b7},
		{0x9747b28c, "aaaa", 0x5a97808a},
		{0x9747b28c, "Hello, world!", 0x24884cba},
		{0x9747b28c, "The quick brown fox jumps over the lazy dog", 0x2fa826cd},
	} {
		if got := One(c.seed, []byte(c.text)); got != c.want {
			t.Errorf("%x %q %x", c.seed, c.text, got)
		}
	}
}

// P29.1, P29.2, P29.3, G1
func TestInAnyPieces(t *testing.T) {
	r := rand.New(rand.NewPCG(29, 1))
	for range 400 {
		seed, b := r.Uint32(), someBytes(r, r.IntN(60))
		want := hash(seed, b)
		if got := One(seed, b); got != want {
			t.Fatal("One", seed, b, got, want)
		}
		h, other := New(seed), New(r.Uint32())
		for from := 0; from < len(b); {
			to := min(len(b), from+r.IntN(12))
			h.Write(b[from:to])
			from = to
			if r.IntN(2) == 0 && h.Sum() != hash(seed, b[:from]) {
				t.Fatal("Sum in between", seed, b, from)
			}
			if r.IntN(3) == 0 {
				other.Reset()
				if lanes, long, tail := h.Lanes(); !other.Set(lanes, long, tail) {
					t.Fatal("Set", lanes, long, tail)
				}
				h, other = other, h
			}
			if r.IntN(3) == 0 {
				former := h
				h = h.Clone()
				former.Write([]byte{1})
			}
		}
		if h.Sum() != want || h.Sum() != want {
			t.Fatal("in pieces", seed, b, h.Sum(), want)
		}
	}
}

// P29.2
func TestLanesAndReset(t *testing.T) {
	h := New(5)
	if lanes, long, tail := h.Lanes(); lanes != [4]uint64{5} || long != 0 || len(tail) != 0 {
		t.Error("a new one", lanes, long, tail)
	}
	h.Write([]byte("abcdefg"))
	k := uint32(0x64636261)
	want := bits.RotateLeft32(5^bits.RotateLeft32(k*0xcc9e2d51, 15)*0x1b873593, 13)*5 + 0xe6546b64
	lanes, long, tail := h.Lanes()
	if lanes != [4]uint64{uint64(want)} || long != 7 || !bytes.Equal(tail, []byte("efg")) {
		t.Error(lanes, long, tail)
	}
	tail[0] = 0
	if _, _, tail := h.Lanes(); !bytes.Equal(tail, []byte("efg")) {
		t.Error("the tail is shared")
	}
	h.Reset()
	if lanes, long, tail := h.Lanes(); lanes != [4]uint64{5} || long != 0 || len(tail) != 0 || h.Sum() != hash(5, nil) {
		t.Error("after a reset", lanes, long, tail)
	}
}

// P29.2
func TestSet(t *testing.T) {
	h := New(5)
	h.Write([]byte("abcdefg"))
	lanes0, long0, tail0 := h.Lanes()
	for _, c := range []struct {
		lanes [4]uint64
		long  uint64
		tail  []byte
		ok    bool
	}{
		{[4]uint64{1}, 4, []byte{1}, false},
		{[4]uint64{1}, 5, nil, false},
		{[4]uint64{1}, 8, []byte{1, 2, 3, 4}, false},
		{[4]uint64{1 << 32}, 4, nil, false},
		{[4]uint64{0, 1}, 4, nil, false},
		{[4]uint64{0, 0, 1}, 4, nil, false},
		{[4]uint64{0, 0, 0, 1}, 4, nil, false},
		{[4]uint64{1<<32 - 1}, 1<<64 - 1, []byte{1, 2, 3}, true},
	} {
		g := h.Clone()
		ok := g.Set(c.lanes, c.long, c.tail)
		lanes, long, tail := g.Lanes()
		if ok != c.ok {
			t.Error(c, ok)
		}
		if ok && (lanes != c.lanes || long != c.long || !bytes.Equal(tail, c.tail)) {
			t.Error("not set", c, lanes, long, tail)
		}
		if !ok && (lanes != lanes0 || long != long0 || !bytes.Equal(tail, tail0)) {
			t.Error("changed", c, lanes, long, tail)
		}
	}
}

// P29.2
func TestNotMade(t *testing.T) {
	for _, h := range []*Hash{nil, {}} {
		h.Write([]byte{1})
		h.Reset()
		lanes, long, tail := h.Lanes()
		if h.Sum() != 0 || h.Clone() != nil || lanes != [4]uint64{} || long != 0 || tail != nil || h.Set(lanes, 0, nil) {
			t.Error(h)
		}
	}
}
