package script

import (
	"bytes"
	"fmt"
	"math"
	"math/rand/v2"
	"slices"
	"strings"
	"testing"

	"astragal/api"
	"astragal/config"
	"astragal/world"
)

var wordsOf = []string{"", "create", "write", "sum", "reset", "eval", "text", "next", "jump", "draw", "weigh", "derive", "marshal", "unmarshal", "clone", "close"}

// shapes say which of the fields H, A, B and S a line has.
var shapes = []string{"", "B", "HB", "H", "H", "HA", "HB", "H", "HA", "HA", "HA", "AS", "H", "B", "H", "H"}

func sameOp(a, b world.Op) bool {
	return a.Kind == b.Kind && a.H == b.H && slices.Equal(a.A, b.A) && bytes.Equal(a.B, b.B) && a.S == b.S
}

func zeroOp(o world.Op) bool {
	return sameOp(o, world.Op{}) && o.A == nil && o.B == nil
}

func someOp(r *rand.Rand) world.Op {
	o := world.Op{Kind: 1 + r.IntN(15)}
	shape := shapes[o.Kind]
	if strings.Contains(shape, "H") {
		o.H = r.Uint64() >> r.IntN(65)
	}
	if strings.Contains(shape, "A") {
		o.A = make([]uint64, r.IntN(5))
		if o.Kind == world.Derive {
			o.A = make([]uint64, 2)
		}
		for i := range o.A {
			o.A[i] = r.Uint64() >> r.IntN(65)
		}
	}
	if strings.Contains(shape, "B") {
		o.B = make([]byte, r.IntN(9))
		for i := range o.B {
			o.B[i] = byte(r.Uint32())
		}
	}
	if strings.Contains(shape, "S") {
		for range r.IntN(6) {
			o.S += string("abyz019-_/"[r.IntN(10)])
		}
		if o.S == "-" {
			o.S = "--"
		}
	}
	return o
}

// lineOf is the table of the chapter.
func lineOf(o world.Op) string {
	line, shape := wordsOf[o.Kind], shapes[o.Kind]
	if strings.Contains(shape, "H") {
		line += fmt.Sprintf(" %d", o.H)
	}
	for _, n := range o.A {
		line += fmt.Sprintf(" %d", n)
	}
	if strings.Contains(shape, "B") {
		if len(o.B) == 0 {
			line += " -"
		} else {
			line += fmt.Sprintf(" %x", o.B)
		}
	}
	if strings.Contains(shape, "S") {
		if o.S == "" {
			line += " -"
		} else {
			line += " " + o.S
		}
	}
	return line
}

// P50.1
func TestBytes(t *testing.T) {
	r := rand.New(rand.NewPCG(50, 1))
	for n := range 50 {
		b := make([]byte, n)
		for i := range b {
			b[i] = byte(r.Uint32())
		}
		want := fmt.Sprintf("%x", b)
		if n == 0 {
			want = "-"
		}
		if got := Bytes(b); got != want {
			t.Fatal(b, got)
		}
		if got, ok := Unbytes(want); !ok || !bytes.Equal(got, b) {
			t.Fatal(want, got, ok)
		}
	}
	for c := range 256 {
		if got, ok := Unbytes(fmt.Sprintf("%02x", c)); !ok || !bytes.Equal(got, []byte{byte(c)}) {
			t.Error(c, got, ok)
		}
	}
	for _, s := range []string{"", "0", "000", "--", "-0", "0-", "0A", "G0", "0g", " 00", "00 ", "0x", "00\n", "é"} {
		if got, ok := Unbytes(s); ok || got != nil {
			t.Errorf("%q %v", s, got)
		}
	}
}

// P50.2, P50.5
func TestLineAndOp(t *testing.T) {
	r := rand.New(rand.NewPCG(50, 2))
	for range 5000 {
		o := someOp(r)
		line, e := Line(o)
		if e != api.OK || line != lineOf(o) {
			t.Fatal("Line", o, line, e)
		}
		back, e := Op(line)
		if e != api.OK || !sameOp(back, o) {
			t.Fatal("Op", line, back, e)
		}
		// What is changed in a line is another line, or none.
		i := r.IntN(len(line) + 1)
		for _, changed := range []string{line[:i], line[:i] + " " + line[i:], line[:i] + string(rune(32+r.IntN(95))) + line[i:], line + "\n", line + " ", line + " 5", strings.ToUpper(line)} {
			o, e := Op(changed)
			if e != api.OK {
				word, _, _ := strings.Cut(changed, " ")
				if want := slices.Contains(wordsOf[1:], word); want != (e == api.ErrForm) || !want && e != api.ErrKind || !zeroOp(o) {
					t.Fatalf("%q %v %v", changed, o, e)
				}
			} else if again, e := Line(o); e != api.OK || again != changed {
				t.Fatalf("%q is read, but written as %q", changed, again)
			}
		}
	}
}

// P50.2
func TestLineErrors(t *testing.T) {
	one, b := []uint64{1}, []byte{1}
	two := []uint64{1, 2}
	for _, c := range []struct {
		o    world.Op
		want api.Errno
	}{
		{world.Op{}, api.ErrKind}, {world.Op{Kind: 16, S: "-"}, api.ErrKind}, {world.Op{Kind: -1}, api.ErrKind}, {world.Op{Kind: math.MinInt}, api.ErrKind}, {world.Op{Kind: math.MaxInt}, api.ErrKind},
		{world.Op{Kind: world.Create, H: 1}, api.ErrArg}, {world.Op{Kind: world.Create, A: one}, api.ErrArg}, {world.Op{Kind: world.Create, S: "a"}, api.ErrArg}, {world.Op{Kind: world.Create, S: "-"}, api.ErrArg},
		{world.Op{Kind: world.Write, A: one}, api.ErrArg}, {world.Op{Kind: world.Sum, B: b}, api.ErrArg}, {world.Op{Kind: world.Sum, A: one}, api.ErrArg}, {world.Op{Kind: world.Eval, B: b}, api.ErrArg}, {world.Op{Kind: world.Draw, S: "A"}, api.ErrArg},
		{world.Op{Kind: world.Unmarshal, H: 1}, api.ErrArg}, {world.Op{Kind: world.Derive, A: two, H: 1}, api.ErrArg}, {world.Op{Kind: world.Derive, A: two, B: b}, api.ErrArg},
		{world.Op{Kind: world.Derive}, api.ErrArg}, {world.Op{Kind: world.Derive, A: one, S: "-"}, api.ErrArg}, {world.Op{Kind: world.Derive, A: []uint64{1, 2, 3}}, api.ErrArg},
		{world.Op{Kind: world.Derive, A: two, S: "-"}, api.ErrForm}, {world.Op{Kind: world.Derive, A: two, S: "A"}, api.ErrForm}, {world.Op{Kind: world.Derive, A: two, S: "a b"}, api.ErrForm}, {world.Op{Kind: world.Derive, A: two, S: "a\n"}, api.ErrForm}, {world.Op{Kind: world.Derive, A: two, S: "é"}, api.ErrForm},
		{world.Op{Kind: world.Derive, A: two, S: "//-"}, api.OK}, {world.Op{Kind: world.Derive, A: two}, api.OK}, {world.Op{Kind: world.Draw}, api.OK},
	} {
		line, e := Line(c.o)
		if e != c.want || e != api.OK && line != "" {
			t.Error(c.o, line, e)
		}
	}
	for line, want := range map[string]api.Errno{
		"": api.ErrKind, " ": api.ErrKind, " sum 5": api.ErrKind, "Sum 5": api.ErrKind, "sums 5": api.ErrKind, "sum\t5": api.ErrKind, "sum\n": api.ErrKind,
		"sum": api.ErrForm, "sum ": api.ErrForm, "sum  5": api.ErrForm, "sum 5 ": api.ErrForm, "sum 05": api.ErrForm, "sum +5": api.ErrForm, "sum -": api.ErrForm, "sum 5 5": api.ErrForm,
		"sum 18446744073709551615": api.OK, "sum 18446744073709551616": api.ErrForm, "sum 340282366920938463463374607431768211456": api.ErrForm, "sum " + strings.Repeat("9", 200): api.ErrForm,
		"create": api.ErrForm, "create ": api.ErrForm, "create -": api.OK, "create 0": api.ErrForm, "create 00 00": api.ErrForm, "create 0G": api.ErrForm,
		"write 5": api.ErrForm, "write -": api.ErrForm, "write 5 -": api.OK, "write 5 6 -": api.ErrForm,
		"eval 5": api.OK, "eval 5 ": api.ErrForm, "eval 5 6 x": api.ErrForm, "eval": api.ErrForm,
		"derive 0 0 -": api.OK, "derive 0 0 ": api.ErrForm, "derive 0 0": api.ErrForm, "derive 0 -": api.ErrForm, "derive 0 0 0 -": api.ErrForm, "derive 0 0 --": api.OK, "derive 0 0 A": api.ErrForm, "derive 0 0 a b": api.ErrForm, "derive 0 0 0": api.OK,
	} {
		o, e := Op(line)
		if e != want || e != api.OK && !zeroOp(o) {
			t.Errorf("%q %v %v", line, o, e)
		}
	}
}

// P50.3, P50.5
func TestShowAndRead(t *testing.T) {
	r := rand.New(rand.NewPCG(50, 3))
	for range 300 {
		var l []world.Op
		want := ""
		for range r.IntN(6) {
			o := someOp(r)
			l, want = append(l, o), want+lineOf(o)+"\n"
		}
		text, e := Show(l)
		if e != api.OK || text != want {
			t.Fatal("Show", l, text, e)
		}
		back, e, at := Read(text)
		if e != api.OK || at != 0 || !slices.EqualFunc(back, l, sameOp) {
			t.Fatal("Read", text, back, e, at)
		}
		if text != "" {
			if back, e, at := Read(text[:len(text)-1]); back != nil || e != api.ErrShort || at != len(l) {
				t.Fatal("no newline at the end", text, e, at)
			}
		}
		wrong := r.IntN(len(l) + 1)
		bad := slices.Insert(slices.Clone(l), wrong, world.Op{Kind: world.Sum, B: []byte{1}}, world.Op{})
		if text, e := Show(bad); text != "" || e != api.ErrArg {
			t.Fatal("Show", text, e)
		}
	}
	for text, want := range map[string]struct {
		e  api.Errno
		at int
	}{
		"":                      {api.OK, 0},
		"\n":                    {api.ErrKind, 1},
		"sum 5\n\n":             {api.ErrKind, 2},
		"sum 5\nfoo\nsum\n":     {api.ErrKind, 2},
		"sum 5\nsum 6\nsum\n":   {api.ErrForm, 3},
		"sum 5":                 {api.ErrShort, 1},
		"sum 5\nsum 6":          {api.ErrShort, 2},
		"sum 5\nsum":            {api.ErrForm, 2},
		"sum 5\nfoo":            {api.ErrKind, 2},
		"sum 5\r\n":             {api.ErrForm, 1},
		"sum 5\nderive 0 0 -\n": {api.OK, 0},
	} {
		l, e, at := Read(text)
		if e != want.e || at != want.at || e != api.OK && l != nil {
			t.Errorf("%q %v %v %v", text, l, e, at)
		}
		if out, e, at := Run(text, 1); e != want.e || at != want.at || e != api.OK && out != "" {
			t.Errorf("Run %q %q %v %v", text, out, e, at)
		}
	}
}

// P50.4
func TestReply(t *testing.T) {
	for want, r := range map[string]world.Reply{
		"ok":                        {},
		"ok 5":                      {N: []uint64{5}},
		"ok 0 18446744073709551615": {N: []uint64{0, 1<<64 - 1}},
		"ok x00ff":                  {B: []byte{0, 255}},
		"ok 1 2 x07":                {N: []uint64{1, 2}, B: []byte{7}},
		"error handle":              {E: api.ErrHandle},
		"error exhausted":           {E: api.ErrExhausted, N: []uint64{1}, B: []byte{1}},
		"error ?":                   {E: 99},
	} {
		if got := Reply(r); got != want {
			t.Errorf("%q %q", want, got)
		}
	}
}

// P50.4, G5
func TestRun(t *testing.T) {
	if text, e, at := Run("derive 0 0 -\n", 1); text != "ok 0 0\n" || e != api.OK || at != 0 {
		t.Error("the chapter's example", text, e, at)
	}
	create := func(c config.Config) string {
		b, _ := config.Encode(c)
		return "create " + Bytes(b) + "\n"
	}
	in := create(config.Config{What: config.Source, Kind: api.Split, Words: []uint64{0}}) +
		create(config.Config{What: config.Tape, Words: []uint64{1 << 63, 1<<63 + 1, 7}}) +
		create(config.Config{What: config.Hasher, Kind: api.Xx32}) +
		create(config.Config{What: config.Family, Kind: api.FamPoly, Bits: 61, Words: []uint64{1, 2}}) +
		"next 16\ndraw 17 1 0 0 10\nnext 17\nnext 17\nsum 18\nwrite 18 61\nsum 18\neval 19 3\nclose 18\nsum 18\nclone 19\nclone 19\nmarshal 99\n"
	out := "ok 16\nok 17\nok 18\nok 19\n" +
		"ok 16294208416658607535\nok 2 5\nok 7\nerror exhausted\nok x055dcc02\nok\nok x56740d55\nok 7\nok\nerror handle\nok 34\nerror full\nerror handle\n"
	if text, e, at := Run(in, 4); text != out || e != api.OK || at != 0 {
		t.Error(text, e, at)
	}
	// A run is the same as the operations one by one.
	r := rand.New(rand.NewPCG(50, 4))
	for range 100 {
		var l []world.Op
		for range 20 {
			o := someOp(r)
			if o.H > 0 {
				o.H = 16 + o.H%4
			}
			l = append(l, o)
		}
		text, e := Show(l)
		if e != api.OK {
			t.Fatal(e)
		}
		want := ""
		w := world.New(3)
		for _, o := range l {
			want += Reply(w.Do(o)) + "\n"
		}
		if got, e, at := Run(text, 3); got != want || e != api.OK || at != 0 {
			t.Fatal(text, got, want)
		}
	}
}
