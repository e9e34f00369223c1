package gcode

import (
	"bytes"
	"math/rand/v2"
	"strings"
	"testing"

	"astragal/api"
	"astragal/gens"
	"astragal/load"
	"astragal/seal"
)

func states(r *rand.Rand, n int) []api.State {
	var out []api.State
	for kind := 1; kind <= api.LastGen; kind++ {
		for range n {
			s, _ := gens.New(kind, r.Uint64())
			s.W[0] >>= r.IntN(65)
			if gens.Check(s) == api.OK {
				out = append(out, s)
			}
		}
	}
	return out
}

// P17.1, P17.3
func TestMarshal(t *testing.T) {
	r := rand.New(rand.NewPCG(17, 1))
	for _, s := range states(r, 30) {
		want := []byte{'g', byte(s.Kind)}
		for i := range gens.Size(s.Kind) {
			want = load.Put64(want, s.W[i])
		}
		want = seal.Seal(want)
		b, e := Marshal(s)
		if e != api.OK || !bytes.Equal(b, want) {
			t.Fatal("Marshal", s, b, e)
		}
		if got, e := Unmarshal(b); got != s || e != api.OK {
			t.Fatal("Unmarshal", s, got, e)
		}
		for n := range b {
			if got, e := Unmarshal(b[:n]); got != (api.State{}) || e != api.ErrShort {
				t.Fatal("cut", s.Kind, n, e)
			}
		}
		if got, e := Unmarshal(append(bytes.Clone(b), 0)); got != (api.State{}) || e != api.ErrLong {
			t.Fatal("longer", s.Kind, e)
		}
		for i := 2; i < len(b); i++ {
			changed := bytes.Clone(b)
			changed[i] ^= 1
			if got, e := Unmarshal(changed); got != (api.State{}) || e != api.ErrSum {
				t.Fatal("changed", s.Kind, i, e)
			}
		}
	}
	s, _ := gens.New(api.Split, 1)
	if b, _ := Marshal(s); len(b) != 14 {
		t.Error("the chapter's example", len(b))
	}
}

// P17.1
func TestUnmarshalErrors(t *testing.T) {
	zeros := make([]byte, 8)
	for _, c := range []struct {
		b    []byte
		want api.Errno
	}{
		{nil, api.ErrShort},
		{[]byte{'x'}, api.ErrShort},
		{[]byte{'g'}, api.ErrShort},
		{[]byte("gx")[:1], api.ErrShort},
		{[]byte{'x', 99}, api.ErrForm},
		{[]byte{'g', 0}, api.ErrKind},
		{[]byte{'g', 9}, api.ErrKind},
		{[]byte{'g', 255}, api.ErrKind},
		{[]byte{'g', 1}, api.ErrShort},
		{append([]byte{'g', 1}, make([]byte, 11)...), api.ErrShort},
		{append([]byte{'g', 1}, make([]byte, 13)...), api.ErrLong},
		{append([]byte{'g', 1}, make([]byte, 12)...), api.ErrSum},
		{seal.Seal(append([]byte{'g', api.XoroSS}, append(zeros, zeros...)...)), api.ErrSeed},
		{seal.Seal(append([]byte{'g', api.Pcg32}, append(zeros, zeros...)...)), api.ErrSeed},
		{seal.Seal(append([]byte{'g', api.Split}, zeros...)), api.OK},
	} {
		if s, e := Unmarshal(c.b); e != c.want || e != api.OK && s != (api.State{}) {
			t.Error(c.b, s, e)
		}
	}
}

// P17.1, P17.2
func TestRefusedStates(t *testing.T) {
	for _, c := range []struct {
		s    api.State
		want api.Errno
	}{
		{api.State{}, api.ErrKind},
		{api.State{Kind: 9}, api.ErrKind},
		{api.State{Kind: api.Split, W: [4]uint64{1, 2}}, api.ErrForm},
		{api.State{Kind: api.XoshP}, api.ErrSeed},
	} {
		if b, e := Marshal(c.s); b != nil || e != c.want {
			t.Error(c.s, b, e)
		}
		if Line(c.s) != "" {
			t.Error(c.s, Line(c.s))
		}
	}
}

// P17.2, P17.3
func TestLine(t *testing.T) {
	r := rand.New(rand.NewPCG(17, 2))
	for _, s := range states(r, 30) {
		want := gens.Name(s.Kind)
		for i := range gens.Size(s.Kind) {
			want += " " + load.Hex(s.W[i])
		}
		line := Line(s)
		if line != want {
			t.Fatal("Line", s, line)
		}
		if got, e := Read(line); got != s || e != api.OK {
			t.Fatal("Read", line, got, e)
		}
		for _, wrong := range []string{line + " ", line + "\n", line + " " + load.Hex(1), line[:len(line)-1], line + "0", strings.Replace(line, " ", "  ", 1), line[:len(line)-17], line[:len(line)-1] + "G"} {
			if got, e := Read(wrong); got != (api.State{}) || e != api.ErrForm {
				t.Fatalf("%q %v %v", wrong, got, e)
			}
		}
	}
	if line := Line(api.State{Kind: api.Split, W: [4]uint64{255}}); line != "split 00000000000000ff" {
		t.Error(line)
	}
}

// P17.2
func TestReadErrors(t *testing.T) {
	zero := " " + load.Hex(0)
	for text, want := range map[string]api.Errno{
		"":                                 api.ErrShort,
		" ":                                api.ErrKind,
		" split":                           api.ErrKind,
		"Split" + zero:                     api.ErrKind,
		"splits" + zero:                    api.ErrKind,
		"split\n":                          api.ErrKind,
		"split":                            api.ErrForm,
		"split ":                           api.ErrForm,
		"split 0":                          api.ErrForm,
		"split" + zero:                     api.OK,
		"xoro**" + zero + zero:             api.ErrSeed,
		"xoro++" + zero:                    api.ErrForm,
		"pcg32" + zero + zero:              api.ErrSeed,
		"pcg32" + zero + " " + load.Hex(1): api.OK,
	} {
		if s, e := Read(text); e != want || e != api.OK && s != (api.State{}) {
			t.Errorf("%q %v %v", text, s, e)
		}
	}
}
