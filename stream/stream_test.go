package stream

import (
	"bytes"
	"math"
	"math/rand/v2"
	"testing"

	"astragal/api"
	"astragal/load"
	"astragal/murmur32"
	"astragal/murmur64"
	"astragal/murmur86"
	"astragal/sip"
	"astragal/xx32"
	"astragal/xx64"
)

var noKinds = []int{0, -1, 9, math.MinInt, math.MaxInt}

func someBytes(r *rand.Rand, n int) []byte {
	b := make([]byte, n)
	for i := range b {
		b[i] = byte(r.Uint32())
	}
	return b
}

func keyOf(r *rand.Rand, kind int) api.U128 {
	switch {
	case kind <= api.Xx32:
		return api.U128{Lo: uint64(r.Uint32())}
	case kind == api.Xx64:
		return api.U128{Lo: r.Uint64()}
	}
	return api.U128{Hi: r.Uint64(), Lo: r.Uint64()}
}

// hash is the result of the package of a kind, as bytes.
func hashOf(kind int, key api.U128, b []byte) []byte {
	seed := uint32(key.Lo)
	var wide api.U128
	switch kind {
	case api.Murmur32:
		return load.Put32(nil, murmur32.One(seed, b))
	case api.Xx32:
		return load.Put32(nil, xx32.One(seed, b))
	case api.Xx64:
		return load.Put64(nil, xx64.One(key.Lo, b))
	case api.Sip24, api.Sip13:
		return load.Put64(nil, sip.One(kind, key, b).Lo)
	case api.Murmur86:
		wide = murmur86.One(seed, b)
	case api.Murmur64:
		wide = murmur64.One(seed, b)
	case api.Sip128:
		wide = sip.One(kind, key, b)
	}
	return load.Put64(load.Put64(nil, wide.Lo), wide.Hi)
}

// P35.1
func TestSizesBlocksNames(t *testing.T) {
	for kind, want := range []struct {
		size, block int
		name        string
	}{{0, 0, ""}, {4, 4, "murmur32"}, {16, 16, "murmur86"}, {16, 16, "murmur64"}, {4, 16, "xx32"}, {8, 32, "xx64"}, {8, 8, "sip24"}, {8, 8, "sip13"}, {16, 8, "sip128"}} {
		if Size(kind) != want.size || Block(kind) != want.block || Name(kind) != want.name {
			t.Error(kind, Size(kind), Block(kind), Name(kind))
		}
	}
	for _, kind := range noKinds {
		if Size(kind) != 0 || Block(kind) != 0 || Name(kind) != "" {
			t.Error(kind)
		}
	}
}

// P35.1 to P35.3
func TestCheck(t *testing.T) {
	check := func(kind int, key api.U128, want api.Errno) {
		t.Helper()
		if e := Check(kind, key); e != want {
			t.Error("Check", kind, key, e)
		}
		if b, e := One(kind, key, nil); e != want || (e == api.OK) != (len(b) > 0) {
			t.Error("One", kind, key, b, e)
		}
		if h, e := New(kind, key); e != want || (e == api.OK) != (h != nil) {
			t.Error("New", kind, key, h, e)
		}
	}
	for _, kind := range noKinds {
		check(kind, api.U128{Hi: 1}, api.ErrKind)
	}
	all := api.U128{Hi: 1<<64 - 1, Lo: 1<<64 - 1}
	for kind := 1; kind <= api.LastHash; kind++ {
		check(kind, api.U128{}, api.OK)
		check(kind, api.U128{Lo: 1<<32 - 1}, api.OK)
		short, long := api.OK, api.OK
		if kind <= api.Xx32 {
			short = api.ErrSeed
		}
		if kind <= api.Xx64 {
			long = api.ErrSeed
		}
		check(kind, api.U128{Lo: 1 << 32}, short)
		check(kind, api.U128{Lo: 1<<64 - 1}, short)
		check(kind, api.U128{Hi: 1}, long)
		check(kind, all, long)
	}
}

// P35.2
func TestOne(t *testing.T) {
	r := rand.New(rand.NewPCG(35, 1))
	for range 100 {
		for kind := 1; kind <= api.LastHash; kind++ {
			key, b := keyOf(r, kind), someBytes(r, r.IntN(100))
			got, e := One(kind, key, b)
			if e != api.OK || !bytes.Equal(got, hashOf(kind, key, b)) || len(got) != Size(kind) {
				t.Fatal(kind, key, b, got, e)
			}
		}
	}
	if got, _ := One(api.Xx32, api.U128{}, nil); !bytes.Equal(got, []byte{0x05, 0x5d, 0xcc, 0x02}) {
		t.Error("the chapter's example", got)
	}
	// The document's fourth example.
	h, _ := New(api.Xx32, api.U128{})
	for range 3 {
		h.Write(nil)
	}
	if got, _ := h.Sum(); !bytes.Equal(got, []byte{0x05, 0x5d, 0xcc, 0x02}) {
		t.Error("nothing, three times", got)
	}
}

// P35.3, P35.4, G1
func TestInAnyPieces(t *testing.T) {
	r := rand.New(rand.NewPCG(35, 2))
	for range 100 {
		for kind := 1; kind <= api.LastHash; kind++ {
			key, b := keyOf(r, kind), someBytes(r, r.IntN(150))
			h, _ := New(kind, key)
			other, _ := New(kind, key)
			for from := 0; from < len(b); {
				to := min(len(b), from+r.IntN(70))
				if e := h.Write(b[from:to]); e != api.OK {
					t.Fatal("Write", e)
				}
				from = to
				if got, e := h.Sum(); r.IntN(2) == 0 && (e != api.OK || !bytes.Equal(got, hashOf(kind, key, b[:from]))) {
					t.Fatal("Sum in between", kind, key, b, from)
				}
				switch r.IntN(4) {
				case 0:
					if e := other.Reset(); e != api.OK {
						t.Fatal("Reset", e)
					}
					lanes, long, tail := h.Lanes()
					if e := other.Set(lanes, long, tail); e != api.OK {
						t.Fatal("Set", e)
					}
					h, other = other, h
				case 1:
					former := h
					h = h.Clone()
					former.Write([]byte{1})
				}
			}
			if h.Kind() != kind || h.Key() != key {
				t.Fatal("Kind, Key", h.Kind(), h.Key())
			}
			want := hashOf(kind, key, b)
			for range 2 {
				if got, e := h.Sum(); e != api.OK || !bytes.Equal(got, want) {
					t.Fatal("in pieces", kind, key, b, got)
				}
			}
			h.Reset()
			if got, _ := h.Sum(); !bytes.Equal(got, hashOf(kind, key, nil)) {
				t.Fatal("not as new", kind)
			}
		}
	}
}

// P35.3
func TestLanesAndSet(t *testing.T) {
	r := rand.New(rand.NewPCG(35, 3))
	for kind := 1; kind <= api.LastHash; kind++ {
		key := keyOf(r, kind)
		h, _ := New(kind, key)
		h.Write(someBytes(r, Block(kind)+3))
		lanes, long, tail := h.Lanes()
		if long != uint64(Block(kind)+3) || len(tail) != 3 {
			t.Error("Lanes", kind, lanes, long, tail)
		}
		wrongLanes := [4]uint64{1 << 32, 0, 1, 0}
		okWrong := api.ErrForm
		if kind >= api.Xx64 {
			okWrong = api.OK
		}
		c := h.Clone()
		if e := c.Set(wrongLanes, uint64(Block(kind)), nil); e != okWrong {
			t.Error("lanes", kind, e)
		}
		if e := h.Set(lanes, long+1, tail); e != api.ErrForm {
			t.Error("a wrong tail", kind, e)
		}
		again, longAgain, tailAgain := h.Lanes()
		if again != lanes || longAgain != long || !bytes.Equal(tailAgain, tail) {
			t.Error("changed", kind)
		}
	}
}

// P35.3
func TestNotMade(t *testing.T) {
	for _, h := range []*Hasher{nil, {}} {
		lanes, long, tail := h.Lanes()
		if h.Kind() != 0 || h.Key() != (api.U128{}) || lanes != [4]uint64{} || long != 0 || tail != nil || h.Clone() != nil {
			t.Error("zero values")
		}
		if h.Write([]byte{1}) != api.ErrNil || h.Reset() != api.ErrNil || h.Set(lanes, 0, nil) != api.ErrNil {
			t.Error("ErrNil")
		}
		if b, e := h.Sum(); b != nil || e != api.ErrNil {
			t.Error("Sum", b, e)
		}
	}
}
