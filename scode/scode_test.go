package scode

import (
	"bytes"
	"math/rand/v2"
	"testing"

	"astragal/api"
	"astragal/load"
	"astragal/seal"
	"astragal/stream"
)

func someBytes(r *rand.Rand, n int) []byte {
	b := make([]byte, n)
	for i := range b {
		b[i] = byte(r.Uint32())
	}
	return b
}

func hasher(r *rand.Rand, kind, n int) *stream.Hasher {
	key := api.U128{Lo: uint64(r.Uint32())}
	if kind >= api.Xx64 {
		key.Lo = r.Uint64()
	}
	if kind > api.Xx64 {
		key.Hi = r.Uint64()
	}
	h, _ := stream.New(kind, key)
	h.Write(someBytes(r, n))
	return h
}

// P36.1
func TestMarshal(t *testing.T) {
	r := rand.New(rand.NewPCG(36, 1))
	for kind := 1; kind <= api.LastHash; kind++ {
		for n := range 80 {
			h := hasher(r, kind, n)
			lanes, long, tail := h.Lanes()
			want := []byte{'h', byte(kind)}
			for _, w := range []uint64{h.Key().Lo, h.Key().Hi, lanes[0], lanes[1], lanes[2], lanes[3], long} {
				want = load.Put64(want, w)
			}
			want = seal.Seal(append(want, tail...))
			if b, e := Marshal(h); e != api.OK || !bytes.Equal(b, want) || len(b) != 62+n%stream.Block(kind) {
				t.Fatal(kind, n, b, e)
			}
		}
	}
	for _, h := range []*stream.Hasher{nil, {}} {
		if b, e := Marshal(h); b != nil || e != api.ErrNil {
			t.Error("not made", b, e)
		}
	}
}

// P36.2, P36.3, G1
func TestContinuation(t *testing.T) {
	r := rand.New(rand.NewPCG(36, 2))
	for range 30 {
		for kind := 1; kind <= api.LastHash; kind++ {
			h := hasher(r, kind, r.IntN(100))
			b, _ := Marshal(h)
			kept := bytes.Clone(b)
			read, e := Unmarshal(b)
			if e != api.OK || read.Kind() != kind || read.Key() != h.Key() {
				t.Fatal("Unmarshal", kind, e)
			}
			clear(b)
			if again, e := Marshal(read); e != api.OK || !bytes.Equal(again, kept) {
				t.Fatal("not written as it was", kind, e)
			}
			for range 4 {
				more := someBytes(r, r.IntN(50))
				h.Write(more)
				read.Write(more)
				want, _ := h.Sum()
				if got, e := read.Sum(); e != api.OK || !bytes.Equal(got, want) {
					t.Fatal("doesn't continue", kind)
				}
			}
			h.Reset()
			read.Reset()
			want, _ := h.Sum()
			if got, _ := read.Sum(); !bytes.Equal(got, want) {
				t.Fatal("another one after a reset", kind)
			}
		}
	}
}

// encoded is an encoding of any content.
func encoded(kind byte, key api.U128, lanes [4]uint64, long uint64, tail []byte) []byte {
	b := []byte{'h', kind}
	for _, w := range []uint64{key.Lo, key.Hi, lanes[0], lanes[1], lanes[2], lanes[3], long} {
		b = load.Put64(b, w)
	}
	return seal.Seal(append(b, tail...))
}

// P36.2
func TestErrors(t *testing.T) {
	none := [4]uint64{}
	good := encoded(api.Xx32, api.U128{Lo: 5}, [4]uint64{1, 2, 3, 4}, 17, []byte{9})
	spoilt := bytes.Clone(good)
	spoilt[20] ^= 1
	for name, c := range map[string]struct {
		b    []byte
		want api.Errno
	}{
		"nothing":           {nil, api.ErrShort},
		"one byte":          {[]byte{'x'}, api.ErrShort},
		"cut to one":        {good[:1], api.ErrShort},
		"another mark":      {[]byte{'g', 99}, api.ErrForm},
		"kind 0":            {[]byte{'h', 0}, api.ErrKind},
		"kind 9":            {[]byte{'h', 9}, api.ErrKind},
		"kind 255":          {append([]byte{'h', 255}, good[2:]...), api.ErrKind},
		"two bytes":         {good[:2], api.ErrShort},
		"61 bytes":          {good[:61], api.ErrShort},
		"cut":               {good[:62], api.ErrSum},
		"changed":           {spoilt, api.ErrSum},
		"one more":          {append(bytes.Clone(good), 0), api.ErrSum},
		"key":               {encoded(api.Xx32, api.U128{Lo: 1 << 32}, [4]uint64{1 << 32}, 1, nil), api.ErrSeed},
		"key of xx64":       {encoded(api.Xx64, api.U128{Hi: 1}, none, 0, nil), api.ErrSeed},
		"lanes":             {encoded(api.Xx32, api.U128{}, [4]uint64{1 << 32}, 0, nil), api.ErrForm},
		"lanes of murmur32": {encoded(api.Murmur32, api.U128{}, [4]uint64{0, 1}, 0, nil), api.ErrForm},
		"lanes of murmur64": {encoded(api.Murmur64, api.U128{}, [4]uint64{0, 1, 2}, 0, nil), api.ErrForm},
		"tail too short":    {encoded(api.Sip24, api.U128{Hi: 1}, none, 1, nil), api.ErrForm},
		"tail too long":     {encoded(api.Sip24, api.U128{Hi: 1}, none, 8, make([]byte, 8)), api.ErrForm},
		"good":              {good, api.OK},
		"good tail":         {encoded(api.Sip24, api.U128{Hi: 1}, none, 15, make([]byte, 7)), api.OK},
	} {
		h, e := Unmarshal(c.b)
		if e != c.want || (e == api.OK) != (h != nil) {
			t.Error(name, h, e)
		}
		if e != api.OK {
			continue
		}
		if b, _ := Marshal(h); !bytes.Equal(b, c.b) {
			t.Error("not written as it was", name, b)
		}
	}
	h, _ := stream.New(api.Sip128, api.U128{})
	if b, _ := Marshal(h); len(b) != 62 {
		t.Error("the chapter's example", len(b))
	}
}
