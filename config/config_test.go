package config

import (
	"bytes"
	"math"
	"math/rand/v2"
	"slices"
	"testing"

	"astragal/api"
	"astragal/family"
	"astragal/gens"
	"astragal/load"
	"astragal/poly"
	"astragal/seal"
)

func list(r *rand.Rand, n int) []uint64 {
	l := make([]uint64, n)
	for i := range l {
		l[i] = r.Uint64()
	}
	return l
}

// configs are some of every What and Kind.
func configs(r *rand.Rand) []Config {
	var out []Config
	for kind := 1; kind <= 8; kind++ {
		key := api.U128{Lo: uint64(r.Uint32())}
		if kind > api.Xx64 {
			key = api.U128{Hi: r.Uint64(), Lo: r.Uint64()}
		}
		out = append(out, Config{What: Hasher, Kind: kind, Key: key})
		least, _ := family.Size(kind)
		f := Config{What: Family, Kind: kind, Bits: 8, Words: list(r, least)}
		switch kind {
		case api.FamPoly, api.FamString:
			f.Bits, f.Words[0] = 61, f.Words[0]%poly.P
		case api.FamOdd:
			f.Words[0] |= 1
		}
		out = append(out, f)
		s, _ := gens.New(kind, r.Uint64())
		out = append(out, Of(s))
	}
	out = append(out, Config{What: Tape}, Config{What: Tape, Words: list(r, 5)}, Config{What: Tape, Words: list(r, 4096)})
	return append(out, Config{What: Table, Words: []uint64{1, 0, 1 << 32}}, Config{What: Table, Words: slices.Repeat([]uint64{7}, 256)})
}

func zero(c Config) bool { return Same(c, Config{}) && c.Words == nil }

// P47.1
func TestCheck(t *testing.T) {
	r := rand.New(rand.NewPCG(47, 1))
	for _, c := range configs(r) {
		if e := Check(c); e != api.OK {
			t.Error(c, e)
		}
		// Fields that the What does not need.
		key, bits, kind, words := c, c, c, c
		key.Key.Hi++
		bits.Bits++
		kind.Kind++
		words.Words = append(slices.Clone(c.Words), 1)
		if e := Check(key); c.What != Hasher && e != api.ErrForm {
			t.Error("Key", c.What, e)
		}
		if e := Check(bits); c.What != Family && e != api.ErrForm {
			t.Error("Bits", c.What, e)
		}
		if e := Check(kind); c.What >= Tape && e != api.ErrForm {
			t.Error("Kind", c.What, e)
		}
		if e := Check(words); c.What == Hasher && e != api.ErrForm {
			t.Error("Words", c.What, e)
		}
	}
	for _, c := range []struct {
		c    Config
		want api.Errno
	}{
		{Config{}, api.ErrKind}, {Config{What: 6}, api.ErrKind}, {Config{What: -1, Bits: 5}, api.ErrKind}, {Config{What: math.MinInt}, api.ErrKind}, {Config{What: math.MaxInt}, api.ErrKind},
		{Config{What: Hasher}, api.ErrKind}, {Config{What: Hasher, Kind: 9, Bits: 1}, api.ErrForm}, {Config{What: Hasher, Kind: 9}, api.ErrKind}, {Config{What: Hasher, Kind: api.Xx32, Key: api.U128{Hi: 1}}, api.ErrSeed},
		{Config{What: Family}, api.ErrKind}, {Config{What: Family, Kind: api.FamOdd, Bits: 8}, api.ErrSeed}, {Config{What: Family, Kind: api.FamOdd, Words: []uint64{1}}, api.ErrArg}, {Config{What: Family, Kind: api.FamString, Bits: 61, Words: []uint64{poly.P}}, api.ErrDomain},
		{Config{What: Source}, api.ErrKind}, {Config{What: Source, Kind: 9, Words: []uint64{1}}, api.ErrKind}, {Config{What: Source, Kind: api.Split}, api.ErrForm}, {Config{What: Source, Kind: api.Split, Words: []uint64{1, 2}}, api.ErrForm}, {Config{What: Source, Kind: api.XoshP, Words: []uint64{0, 0, 0}}, api.ErrForm}, {Config{What: Source, Kind: api.XoshP, Words: make([]uint64, 4)}, api.ErrSeed},
		{Config{What: Tape, Words: make([]uint64, 4097)}, api.ErrOver}, {Config{What: Tape, Words: make([]uint64, 4097), Kind: 1}, api.ErrForm},
		{Config{What: Table}, api.ErrArg}, {Config{What: Table, Words: []uint64{0}}, api.ErrZero}, {Config{What: Table, Words: []uint64{1 << 33}}, api.ErrOver}, {Config{What: Table, Words: make([]uint64, 257)}, api.ErrArg},
	} {
		if e := Check(c.c); e != c.want {
			t.Error(c.c.What, c.c.Kind, len(c.c.Words), e)
		}
		if b, e := Encode(c.c); b != nil || e != c.want {
			t.Error("Encode", c.c.What, e)
		}
		if s, e := State(c.c); s != (api.State{}) || e != c.want {
			t.Error("State", c.c.What, s, e)
		}
	}
}

// encoded is an encoding of anything.
func encoded(what, kind, bits byte, key api.U128, count uint32, words []uint64) []byte {
	b := load.Put32(load.Put64(load.Put64([]byte{'c', what, kind, bits}, key.Lo), key.Hi), count)
	for _, w := range words {
		b = load.Put64(b, w)
	}
	return b
}

// P47.2, P47.4
func TestEncode(t *testing.T) {
	r := rand.New(rand.NewPCG(47, 2))
	for _, c := range configs(r) {
		want := seal.Seal(encoded(byte(c.What), byte(c.Kind), byte(c.Bits), c.Key, uint32(len(c.Words)), c.Words))
		b, e := Encode(c)
		if e != api.OK || !bytes.Equal(b, want) {
			t.Fatal("Encode", c, e)
		}
		got, e := Decode(b)
		if e != api.OK || !Same(got, c) {
			t.Fatal("Decode", c, got, e)
		}
		if again, _ := Encode(got); !bytes.Equal(again, b) {
			t.Fatal("not encoded as it was", c)
		}
		for _, n := range []int{0, 1, 3} {
			if got, e := Decode(b[:n]); !zero(got) || e != api.ErrShort {
				t.Fatal("cut", n, e)
			}
		}
		for i := 1; i < len(b); i += 1 + len(b)/50 {
			b[i] ^= 1
			if got, e := Decode(b); !zero(got) || e != api.ErrSum {
				t.Fatal("changed", i, e)
			}
			b[i] ^= 1
		}
	}
	if b, _ := Encode(Config{What: Hasher, Kind: api.Xx32}); len(b) != 28 {
		t.Error("the chapter's example", len(b))
	}
}

// P47.2
func TestDecodeErrors(t *testing.T) {
	none := api.U128{}
	two := []uint64{1, 2}
	tape := encoded(Tape, 0, 0, none, 2, two)
	for name, c := range map[string]struct {
		b    []byte
		want api.Errno
	}{
		"nothing":         {nil, api.ErrShort},
		"three bytes":     {[]byte("xyz"), api.ErrShort},
		"another mark":    {[]byte("gxyz"), api.ErrForm},
		"sealed g":        {seal.Seal([]byte("gxyz")), api.ErrForm},
		"no checksum":     {tape, api.ErrSum},
		"four bytes":      {[]byte("cxyz"), api.ErrSum},
		"only the mark":   {seal.Seal([]byte("c")), api.ErrShort},
		"no count":        {seal.Seal(tape[:23]), api.ErrShort},
		"no words":        {seal.Seal(tape[:24]), api.ErrShort},
		"half a word":     {seal.Seal(tape[:36]), api.ErrShort},
		"one byte less":   {seal.Seal(tape[:39]), api.ErrShort},
		"one byte more":   {seal.Seal(append(bytes.Clone(tape), 0)), api.ErrLong},
		"a word more":     {seal.Seal(encoded(Tape, 0, 0, none, 1, two)), api.ErrLong},
		"too many":        {seal.Seal(encoded(99, 0, 0, none, 1<<32-1, two)), api.ErrShort},
		"no What":         {seal.Seal(encoded(0, 0, 0, none, 2, two)), api.ErrKind},
		"another What":    {seal.Seal(encoded(255, 0, 0, none, 2, two)), api.ErrKind},
		"a tape's Kind":   {seal.Seal(encoded(Tape, 1, 0, none, 2, two)), api.ErrForm},
		"a tape's Key":    {seal.Seal(encoded(Tape, 0, 0, api.U128{Hi: 1}, 2, two)), api.ErrForm},
		"too long a tape": {seal.Seal(encoded(Tape, 0, 0, none, 4097, make([]uint64, 4097))), api.ErrOver},
		"zeros":           {seal.Seal(encoded(Source, api.XoroPP, 0, none, 2, []uint64{0, 0})), api.ErrSeed},
		"a good one":      {seal.Seal(tape), api.OK},
	} {
		got, e := Decode(c.b)
		if e != c.want || e != api.OK && !zero(got) {
			t.Error(name, got, e)
		}
	}
}

// P47.3
func TestSameStateOf(t *testing.T) {
	r := rand.New(rand.NewPCG(47, 3))
	all := configs(r)
	for i, a := range all {
		for j, b := range all {
			if Same(a, b) != (i == j) {
				t.Fatal("Same", i, j)
			}
		}
		b := a
		b.Words = slices.Clone(a.Words)
		if !Same(a, b) {
			t.Fatal("Same", i)
		}
	}
	if !Same(Config{Words: []uint64{}}, Config{}) || Same(Config{Words: []uint64{0}}, Config{}) || Same(Config{Key: api.U128{Lo: 1}}, Config{}) || Same(Config{Bits: 1}, Config{}) || Same(Config{Kind: 1}, Config{}) || Same(Config{What: 1}, Config{}) {
		t.Error("Same")
	}
	for kind := 1; kind <= api.LastGen; kind++ {
		s, _ := gens.New(kind, r.Uint64())
		c := Of(s)
		if !Same(c, Config{What: Source, Kind: kind, Words: s.W[:gens.Size(kind)]}) {
			t.Error("Of", kind, c)
		}
		if got, e := State(c); got != s || e != api.OK {
			t.Error("State", kind, got, e)
		}
	}
	if c := Of(api.State{Kind: 9, W: [4]uint64{1, 2, 3, 4}}); !Same(c, Config{What: Source, Kind: 9}) {
		t.Error("Of no generator", c)
	}
	for _, c := range all {
		if s, e := State(c); c.What != Source && (s != (api.State{}) || e != api.ErrKind) {
			t.Error("State of another What", c.What, s, e)
		}
	}
}

// P47.2, P47.3 with P2
func TestNothingIsShared(t *testing.T) {
	b, _ := Encode(Config{What: Tape, Words: []uint64{1, 2}})
	c, _ := Decode(b)
	clear(b)
	if !slices.Equal(c.Words, []uint64{1, 2}) {
		t.Error("the words of a config", c.Words)
	}
}
