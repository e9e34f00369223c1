package world

import (
	"bytes"
	"math"
	"math/rand/v2"
	"slices"
	"testing"

	"astragal/alias"
	"astragal/api"
	"astragal/config"
	"astragal/derive"
	"astragal/family"
	"astragal/gens"
	"astragal/sampler"
	"astragal/scode"
	"astragal/stream"
	"astragal/tape"
)

// modelThing is a thing made of plain lists.
type modelThing struct {
	handle  uint64
	c       config.Config // as it was made
	written []byte        // of a hasher
	steps   uint64        // of a source
	taken   int           // words of a tape
}

// model is a world made of plain lists.
type model struct {
	places []modelThing // handle 0: free
	stored []uint64
}

func newModel(room int) *model {
	room = min(max(room, 1), 16)
	return &model{places: make([]modelThing, room), stored: make([]uint64, room)}
}

func (m *model) find(h uint64) *modelThing {
	for i := range m.places {
		if h != 0 && m.places[i].handle == h {
			return &m.places[i]
		}
	}
	return nil
}

func (m *model) put(x modelThing) Reply {
	for i := range m.places {
		if m.places[i].handle == 0 {
			m.stored[i]++
			x.handle = uint64(i) + 16*m.stored[i]
			m.places[i] = x
			return Reply{N: []uint64{x.handle}}
		}
	}
	return Reply{E: api.ErrFull}
}

func (m *model) live() []uint64 {
	var out []uint64
	for _, x := range m.places {
		if x.handle != 0 {
			out = append(out, x.handle)
		}
	}
	slices.Sort(out)
	return out
}

// now is the config of a thing as it is now.
func (x *modelThing) now() config.Config {
	c := x.c
	switch c.What {
	case config.Source:
		s, _ := config.State(x.c)
		for range x.steps {
			s, _ = gens.Step(s)
		}
		return config.Of(s)
	case config.Tape:
		c.Words = c.Words[x.taken:]
	}
	return c
}

// words are those that a source or a tape has to give.
func (x *modelThing) words() []uint64 {
	c := x.now()
	if c.What == config.Tape {
		return c.Words
	}
	s, _ := config.State(c)
	l, _, _ := gens.Words(s, 4096)
	return l
}

func (x *modelThing) take(n int) {
	if x.c.What == config.Tape {
		x.taken += n
	} else {
		x.steps += uint64(n * gens.Cost(x.c.Kind))
	}
}

// hasher is that of all bytes at once.
func (x *modelThing) hasher() *stream.Hasher {
	h, _ := stream.New(x.c.Kind, x.c.Key)
	h.Write(x.written)
	return h
}

func (m *model) do(o Op) Reply {
	fail := func(e api.Errno) Reply { return Reply{E: e} }
	if o.Kind < 1 || o.Kind > 15 {
		return fail(api.ErrKind)
	}
	var x *modelThing
	whats := map[int][]int{Write: {1}, Sum: {1}, Reset: {1}, Eval: {2}, Text: {2}, Next: {3, 4}, Jump: {3}, Draw: {3, 4}, Weigh: {5}, Marshal: {1, 2, 3, 4, 5}, Clone: {1, 2, 3, 4, 5}, Close: {1, 2, 3, 4, 5}}
	if allowed := whats[o.Kind]; allowed != nil {
		if x = m.find(o.H); x == nil {
			return fail(api.ErrHandle)
		}
		if !slices.Contains(allowed, x.c.What) {
			return fail(api.ErrKind)
		}
	}
	switch o.Kind {
	case Create, Unmarshal:
		if o.Kind == Unmarshal && len(o.B) > 0 && o.B[0] == 'h' {
			h, e := scode.Unmarshal(o.B)
			if e != api.OK {
				return fail(e)
			}
			// The tests unmarshal hashers of live things only: find the bytes among these.
			for _, y := range m.places {
				if y.handle == 0 || y.c.What != config.Hasher || y.c.Kind != h.Kind() || y.c.Key != h.Key() {
					continue
				}
				if b, _ := scode.Marshal(y.hasher()); bytes.Equal(b, o.B) {
					return m.put(modelThing{c: y.c, written: slices.Clone(y.written)})
				}
			}
			panic("an unknown hasher")
		}
		c, e := config.Decode(o.B)
		if e != api.OK {
			return fail(e)
		}
		return m.put(modelThing{c: c})
	case Write:
		x.written = append(slices.Clone(x.written), o.B...)
	case Sum:
		b, _ := stream.One(x.c.Kind, x.c.Key, x.written)
		return Reply{B: b}
	case Reset:
		x.written = nil
	case Eval:
		if len(o.A) != 1 {
			return fail(api.ErrArg)
		}
		v, e := family.Eval(api.Seed{Kind: x.c.Kind, Bits: x.c.Bits, Words: x.c.Words}, o.A[0])
		if e != api.OK {
			return fail(e)
		}
		return Reply{N: []uint64{v}}
	case Text:
		v, e := family.Text(api.Seed{Kind: x.c.Kind, Bits: x.c.Bits, Words: x.c.Words}, o.B)
		if e != api.OK {
			return fail(e)
		}
		return Reply{N: []uint64{v}}
	case Next:
		l := x.words()
		if len(l) == 0 {
			return fail(api.ErrExhausted)
		}
		x.take(1)
		return Reply{N: l[:1]}
	case Jump:
		if len(o.A) != 4 {
			return fail(api.ErrArg)
		}
		x.steps += o.A[0] // the tests jump by few steps
	case Draw:
		if len(o.A) < 3 || o.A[1] > 65536 || o.A[2] > 65536 {
			return fail(api.ErrArg)
		}
		if o.A[0] > 65536 {
			return fail(api.ErrKind)
		}
		out, used, e := sampler.Do(tape.New(x.words()), sampler.Ask{Kind: int(o.A[0]), N: int(o.A[1]), K: int(o.A[2]), Words: o.A[3:]})
		if e != api.OK {
			return fail(e)
		}
		x.take(used)
		return Reply{N: append([]uint64{uint64(used)}, out...)}
	case Weigh:
		if len(o.A) != 1 {
			return fail(api.ErrArg)
		}
		from := m.find(o.A[0])
		if from == nil {
			return fail(api.ErrHandle)
		}
		if from.c.What != config.Source && from.c.What != config.Tape {
			return fail(api.ErrKind)
		}
		table, _ := alias.Build(x.c.Words)
		item, draws, e := alias.Take(tape.New(from.words()), table)
		if e != api.OK {
			return fail(e)
		}
		from.take(draws[0].Used + draws[1].Used)
		return Reply{N: []uint64{uint64(item)}}
	case Derive:
		if len(o.A) != 2 {
			return fail(api.ErrArg)
		}
		key, e := derive.Path(api.U128{Lo: o.A[0], Hi: o.A[1]}, o.S)
		if e != api.OK {
			return fail(e)
		}
		return Reply{N: []uint64{key.Lo, key.Hi}}
	case Marshal:
		var b []byte
		if x.c.What == config.Hasher {
			b, _ = scode.Marshal(x.hasher())
		} else {
			b, _ = config.Encode(x.now())
		}
		return Reply{B: b}
	case Clone:
		y := *x
		return m.put(y)
	case Close:
		*x = modelThing{}
	}
	return Reply{}
}

func same(a, b Reply) bool {
	return a.E == b.E && slices.Equal(a.N, b.N) && bytes.Equal(a.B, b.B)
}

func someConfig(r *rand.Rand) config.Config {
	l := make([]uint64, r.IntN(12))
	for i := range l {
		l[i] = r.Uint64()
		if r.IntN(3) == 0 {
			l[i] = uint64(r.IntN(2))
		}
	}
	switch r.IntN(6) {
	case 0:
		return config.Config{What: config.Hasher, Kind: r.IntN(10), Key: api.U128{Lo: uint64(r.Uint32())}}
	case 1:
		c := config.Config{What: config.Family, Kind: 1 + r.IntN(8), Bits: 8}
		least, _ := family.Size(c.Kind)
		c.Words = make([]uint64, least)
		for i := range c.Words {
			c.Words[i] = r.Uint64()>>4 | 1
		}
		if c.Kind == api.FamPoly || c.Kind == api.FamString {
			c.Bits = 61
		}
		return c
	case 2, 3:
		s, _ := gens.New(1+r.IntN(8), r.Uint64())
		return config.Of(s)
	case 4:
		return config.Config{What: config.Tape, Words: l}
	}
	w := make([]uint64, 1+r.IntN(4))
	for i := range w {
		w[i] = r.Uint64N(5)
	}
	return config.Config{What: config.Table, Words: w}
}

func someOp(r *rand.Rand, m *model) Op {
	o := Op{Kind: 1 + r.IntN(15), H: uint64(r.IntN(60))}
	live := m.live()
	handle := func() uint64 {
		if len(live) > 0 && r.IntN(8) > 0 {
			return live[r.IntN(len(live))]
		}
		return uint64(r.IntN(80))
	}
	o.H = handle()
	for range r.IntN(3) {
		o.A = append(o.A, uint64(r.IntN(100)))
	}
	o.B = []byte("some bytes to be written")[:r.IntN(20)]
	o.S = []string{"", "a", "a/b", "a//b", "A"}[r.IntN(5)]
	switch o.Kind {
	case Create:
		o.B, _ = config.Encode(someConfig(r))
	case Jump:
		o.A = []uint64{uint64(r.IntN(20)), 0, 0, 0}
	case Draw:
		o.A = []uint64{uint64(r.IntN(8)), uint64(r.IntN(6)), uint64(r.IntN(4)), uint64(r.IntN(5)), uint64(r.IntN(3))}[:2+r.IntN(4)]
	case Weigh:
		o.A = []uint64{handle(), 1}[:1+r.IntN(8)/7]
	case Unmarshal:
		if x := m.do(Op{Kind: Marshal, H: handle()}); r.IntN(4) > 0 && x.E == api.OK {
			o.B = x.B
		}
	}
	return o
}

// P49.1 to P49.3, G5: whatever is done, the replies are those of lists.
func TestLikeLists(t *testing.T) {
	r := rand.New(rand.NewPCG(49, 1))
	done := map[int]int{}
	for range 60 {
		room := r.IntN(18)
		w, m := New(room), newModel(room)
		for range 300 {
			o := someOp(r, m)
			want := m.do(o)
			got := w.Do(o)
			if !same(got, want) {
				t.Fatal(o, got, want)
			}
			if got.E == api.OK {
				done[o.Kind]++
			}
			if !slices.Equal(w.Live(), m.live()) {
				t.Fatal("Live", o, w.Live(), m.live())
			}
			for _, x := range m.places {
				if x.handle == 0 {
					continue
				}
				if c, e := w.Tell(x.handle); e != api.OK || !config.Same(c, x.now()) {
					t.Fatal("Tell", o, x.handle, c, e)
				}
			}
		}
	}
	for kind := 1; kind <= LastOp; kind++ {
		if done[kind] < 10 {
			t.Error("was hardly ever done", kind, done[kind])
		}
	}
}

func mustCreate(t *testing.T, w *World, c config.Config) uint64 {
	t.Helper()
	b, e := config.Encode(c)
	reply := w.Do(Op{Kind: Create, B: b})
	if e != api.OK || reply.E != api.OK || len(reply.N) != 1 {
		t.Fatal("create", c, e, reply)
	}
	return reply.N[0]
}

// P49.1, P49.2
func TestErrorsInOrder(t *testing.T) {
	w := New(5)
	hasher := mustCreate(t, w, config.Config{What: config.Hasher, Kind: api.Xx32})
	fam := mustCreate(t, w, config.Config{What: config.Family, Kind: api.FamAdd, Bits: 8, Words: []uint64{1, 2}})
	source := mustCreate(t, w, config.Config{What: config.Source, Kind: api.Split, Words: []uint64{0}})
	words := mustCreate(t, w, config.Config{What: config.Tape, Words: []uint64{5}})
	table := mustCreate(t, w, config.Config{What: config.Table, Words: []uint64{1, 3}})
	good, _ := config.Encode(config.Config{What: config.Tape})
	spoilt := bytes.Clone(good)
	spoilt[9] ^= 1
	encoded := w.Do(Op{Kind: Marshal, H: hasher}).B
	for _, c := range []struct {
		o    Op
		want api.Errno
	}{
		{Op{}, api.ErrKind}, {Op{Kind: 16}, api.ErrKind}, {Op{Kind: -1}, api.ErrKind}, {Op{Kind: math.MinInt}, api.ErrKind}, {Op{Kind: math.MaxInt, H: hasher}, api.ErrKind},
		{Op{Kind: Sum, H: 5}, api.ErrHandle}, {Op{Kind: Sum, H: fam}, api.ErrKind}, {Op{Kind: Write, H: source}, api.ErrKind}, {Op{Kind: Reset, H: table}, api.ErrKind},
		{Op{Kind: Eval, H: 5}, api.ErrHandle}, {Op{Kind: Eval, H: hasher}, api.ErrKind}, {Op{Kind: Eval, H: fam}, api.ErrArg}, {Op{Kind: Eval, H: fam, A: []uint64{1, 2}}, api.ErrArg}, {Op{Kind: Eval, H: fam, A: []uint64{1 << 32}}, api.ErrDomain},
		{Op{Kind: Text, H: hasher}, api.ErrKind}, {Op{Kind: Text, H: fam, B: []byte("x")}, api.ErrKind},
		{Op{Kind: Next, H: fam}, api.ErrKind}, {Op{Kind: Jump, H: words}, api.ErrKind}, {Op{Kind: Jump, H: source, A: []uint64{1, 2, 3}}, api.ErrArg}, {Op{Kind: Jump, H: source, A: make([]uint64, 5)}, api.ErrArg},
		{Op{Kind: Draw, H: table, A: nil}, api.ErrKind}, {Op{Kind: Draw, H: source, A: []uint64{1, 2}}, api.ErrArg},
		{Op{Kind: Draw, H: source, A: []uint64{99, 65537, 0}}, api.ErrArg}, {Op{Kind: Draw, H: source, A: []uint64{1, 0, 65537, 5}}, api.ErrArg}, {Op{Kind: Draw, H: source, A: []uint64{1, 1<<64 - 1, 0, 5}}, api.ErrArg},
		{Op{Kind: Draw, H: source, A: []uint64{7, 65536, 65536}}, api.ErrKind}, {Op{Kind: Draw, H: source, A: []uint64{1<<64 - 1, 0, 0, 5}}, api.ErrKind}, {Op{Kind: Draw, H: source, A: []uint64{65537, 0, 0, 5}}, api.ErrKind}, {Op{Kind: Draw, H: source, A: []uint64{1 << 63, 0, 0, 5}}, api.ErrKind},
		{Op{Kind: Draw, H: source, A: []uint64{1, 0, 0}}, api.ErrArg}, {Op{Kind: Draw, H: source, A: []uint64{1, 0, 0, 0}}, api.ErrZero}, {Op{Kind: Draw, H: source, A: []uint64{3, 257, 0}}, api.ErrOver}, {Op{Kind: Draw, H: words, A: []uint64{3, 5, 0}}, api.ErrExhausted},
		{Op{Kind: Weigh, H: source}, api.ErrKind}, {Op{Kind: Weigh, H: table}, api.ErrArg}, {Op{Kind: Weigh, H: table, A: []uint64{source, source}}, api.ErrArg}, {Op{Kind: Weigh, H: table, A: []uint64{7}}, api.ErrHandle}, {Op{Kind: Weigh, H: table, A: []uint64{table}}, api.ErrKind}, {Op{Kind: Weigh, H: table, A: []uint64{words}}, api.ErrExhausted},
		{Op{Kind: Derive}, api.ErrArg}, {Op{Kind: Derive, A: []uint64{1, 2, 3}, S: "A"}, api.ErrArg}, {Op{Kind: Derive, A: []uint64{1, 2}, S: "A"}, api.ErrForm}, {Op{Kind: Derive, A: []uint64{1, 2}, S: "a//"}, api.ErrShort},
		{Op{Kind: Marshal}, api.ErrHandle}, {Op{Kind: Clone}, api.ErrHandle}, {Op{Kind: Close}, api.ErrHandle},
		{Op{Kind: Clone, H: hasher}, api.ErrFull}, {Op{Kind: Create, B: good}, api.ErrFull}, {Op{Kind: Create, B: spoilt}, api.ErrSum}, {Op{Kind: Create}, api.ErrShort}, {Op{Kind: Create, B: encoded}, api.ErrForm},
		{Op{Kind: Unmarshal, B: good}, api.ErrFull}, {Op{Kind: Unmarshal, B: encoded}, api.ErrFull}, {Op{Kind: Unmarshal, B: encoded[:61]}, api.ErrShort}, {Op{Kind: Unmarshal, B: []byte("h")}, api.ErrShort}, {Op{Kind: Unmarshal}, api.ErrShort}, {Op{Kind: Unmarshal, B: []byte("xyzu")}, api.ErrForm}, {Op{Kind: Unmarshal, B: spoilt}, api.ErrSum},
	} {
		var before []config.Config
		for _, h := range w.Live() {
			x, _ := w.Tell(h)
			before = append(before, x)
		}
		if got := w.Do(c.o); !same(got, Reply{E: c.want}) {
			t.Error(c.o, got, c.want)
		}
		for i, h := range w.Live() {
			if x, _ := w.Tell(h); !config.Same(x, before[i]) {
				t.Error("something changed", c.o, h)
			}
		}
	}
	if c, e := w.Tell(99); !config.Same(c, config.Config{}) || e != api.ErrHandle {
		t.Error("Tell of nothing", c, e)
	}
	// Fields that an operation doesn't mention are ignored.
	full := Op{H: source, A: []uint64{9}, B: []byte("x"), S: "///"}
	full.Kind = Next
	if got := w.Do(full); !same(got, Reply{N: []uint64{0xe220a8397b1dcdaf}}) {
		t.Error("the first word of SplitMix64", got)
	}
	full.Kind = Close
	if got := w.Do(full); !same(got, Reply{}) || len(w.Live()) != 4 {
		t.Error("Close", got)
	}
}

// P49.1
func TestNotMade(t *testing.T) {
	for _, w := range []*World{nil, {}} {
		for kind := range 17 {
			if got := w.Do(Op{Kind: kind}); !same(got, Reply{E: api.ErrNil}) {
				t.Error(kind, got)
			}
		}
		c, e := w.Tell(16)
		if w.Run(make([]Op, 3)) != nil || w.Live() != nil || !config.Same(c, config.Config{}) || e != api.ErrNil {
			t.Error("Run, Live, Tell")
		}
	}
}

// P49.1
func TestRun(t *testing.T) {
	b, _ := config.Encode(config.Config{What: config.Hasher, Kind: api.Xx32})
	l := []Op{{Kind: Create, B: b}, {Kind: Sum, H: 16}, {Kind: Write, H: 16, B: []byte("a")}, {Kind: Sum, H: 16}, {Kind: Sum, H: 17}, {Kind: Close, H: 16}, {Kind: Create, B: b}}
	want := []Reply{{N: []uint64{16}}, {B: []byte{0x05, 0x5d, 0xcc, 0x02}}, {}, {B: []byte{0x56, 0x74, 0x0d, 0x55}}, {E: api.ErrHandle}, {}, {N: []uint64{32}}}
	w := New(1)
	got := w.Run(l)
	if !slices.EqualFunc(got, want, same) || !slices.Equal(w.Live(), []uint64{32}) {
		t.Error(got)
	}
	if len(w.Run(nil)) != 0 {
		t.Error("nothing to be done")
	}
}

// P49.4, G1: what Unmarshal makes continues as the original thing.
func TestContinuation(t *testing.T) {
	r := rand.New(rand.NewPCG(49, 2))
	for range 200 {
		w := New(16)
		c := someConfig(r)
		if config.Check(c) != api.OK {
			continue
		}
		first := mustCreate(t, w, c)
		helper := mustCreate(t, w, config.Config{What: config.Table, Words: []uint64{1, 2}})
		steps := func(h uint64, from int) []Reply {
			var out []Reply
			for i := range 10 {
				x := uint64(from + i)
				for _, o := range []Op{{Kind: Write, H: h, B: []byte{byte(x)}}, {Kind: Sum, H: h}, {Kind: Next, H: h}, {Kind: Draw, H: h, A: []uint64{4, 5, 2}}, {Kind: Eval, H: h, A: []uint64{x}}, {Kind: Weigh, H: helper, A: []uint64{h}}, {Kind: Jump, H: h, A: []uint64{x, 0, 0, x}}} {
					out = append(out, w.Do(o))
				}
			}
			return out
		}
		steps(first, 0)
		b := w.Do(Op{Kind: Marshal, H: first})
		second := w.Do(Op{Kind: Unmarshal, B: b.B})
		third := w.Do(Op{Kind: Clone, H: first})
		if b.E != api.OK || second.E != api.OK || third.E != api.OK {
			t.Fatal(c, b, second, third)
		}
		want := steps(first, 50)
		for _, h := range []uint64{second.N[0], third.N[0]} {
			if !slices.EqualFunc(steps(h, 50), want, same) {
				t.Fatal("doesn't continue in the same way", c)
			}
		}
		if got := w.Do(Op{Kind: Marshal, H: second.N[0]}); !same(got, w.Do(Op{Kind: Marshal, H: first})) {
			t.Fatal("another state", c)
		}
	}
}

// P49.2, G5: a draw from a source is that from a tape of its words.
func TestSourceLikeTape(t *testing.T) {
	r := rand.New(rand.NewPCG(49, 3))
	for kind := 1; kind <= api.LastGen; kind++ {
		s, _ := gens.New(kind, r.Uint64())
		l, _, _ := gens.Words(s, 4096)
		w := New(2)
		source, words := mustCreate(t, w, config.Of(s)), mustCreate(t, w, config.Config{What: config.Tape, Words: l})
		for range 100 {
			a := []uint64{1 + r.Uint64N(6), r.Uint64N(8), r.Uint64N(5), 1 + r.Uint64()>>r.IntN(64)}
			if a[0] == sampler.Weighted {
				a[3] = r.Uint64N(9)
			}
			got, want := w.Do(Op{Kind: Draw, H: source, A: a}), w.Do(Op{Kind: Draw, H: words, A: a})
			if !same(got, want) {
				t.Fatal(kind, a, got, want)
			}
			next, wanted := w.Do(Op{Kind: Next, H: source}), w.Do(Op{Kind: Next, H: words})
			if !same(next, wanted) {
				t.Fatal(kind, next, wanted)
			}
		}
	}
}

// P49.2, G3: a jump takes the lowest word first.
func TestJump(t *testing.T) {
	r := rand.New(rand.NewPCG(49, 4))
	for kind := 1; kind <= api.LastGen; kind++ {
		s, _ := gens.New(kind, r.Uint64())
		n := api.U256{r.Uint64(), r.Uint64(), r.Uint64(), r.Uint64()}
		want, _ := gens.Jump(s, n)
		w := New(1)
		h := mustCreate(t, w, config.Of(s))
		got := w.Do(Op{Kind: Jump, H: h, A: n[:]})
		if c, _ := w.Tell(h); !same(got, Reply{}) || !config.Same(c, config.Of(want)) {
			t.Error(kind, n, got, c)
		}
	}
}

// P49.1 with P2
func TestNothingIsShared(t *testing.T) {
	w := New(4)
	h := mustCreate(t, w, config.Config{What: config.Tape, Words: []uint64{1, 2, 3}})
	f := mustCreate(t, w, config.Config{What: config.Family, Kind: api.FamAdd, Bits: 8, Words: []uint64{1, 2}})
	for _, x := range []uint64{h, f} {
		c, _ := w.Tell(x)
		kept := slices.Clone(c.Words)
		clear(c.Words)
		if again, _ := w.Tell(x); !slices.Equal(again.Words, kept) {
			t.Error("Tell", x)
		}
	}
	o := Op{Kind: Draw, H: h, A: []uint64{1, 0, 0, 5, 9}[:4]}
	got := w.Do(o)
	_ = append(got.N, 77)
	clear(got.N)
	if !slices.Equal(o.A[:5], []uint64{1, 0, 0, 5, 9}) {
		t.Error("the argument was changed", o.A)
	}
}
