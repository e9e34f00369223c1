package strpoly

import (
	"bytes"
	"math/big"
	"math/rand/v2"
	"slices"
	"testing"

	"astragal/api"
	"astragal/poly"
)

const p = poly.P

func text(r *rand.Rand, n int) []byte {
	b := make([]byte, n)
	for i := range b {
		if r.IntN(3) > 0 {
			b[i] = byte(r.Uint32())
		}
	}
	return b
}

// P25.1
func TestChunks(t *testing.T) {
	r := rand.New(rand.NewPCG(25, 1))
	for n := range 60 {
		for range 20 {
			b := text(r, n)
			l := Chunks(b)
			if len(l) != n/7+1 {
				t.Fatal("the number of chunks", n, len(l))
			}
			for i, got := range l {
				want := uint64(0)
				end := min(7*i+7, n)
				for j := end - 1; j >= 7*i; j-- {
					want = want<<8 | uint64(b[j])
				}
				if i == n/7 {
					want += 1 << (8 * (n % 7))
				}
				if got != want || got >= 1<<56 {
					t.Fatal(b, i, got, want)
				}
			}
			if back, ok := Bytes(l); !ok || !bytes.Equal(back, b) {
				t.Fatal("Bytes", b, l, back)
			}
		}
	}
	if !slices.Equal(Chunks(nil), []uint64{1}) || !slices.Equal(Chunks(make([]byte, 7)), []uint64{0, 1}) {
		t.Error("examples")
	}
}

// P25.1
func TestBytes(t *testing.T) {
	for _, c := range []struct {
		l    []uint64
		want []byte
		ok   bool
	}{
		{nil, nil, false},
		{[]uint64{0}, nil, false},
		{[]uint64{1}, nil, true},
		{[]uint64{2}, nil, false},
		{[]uint64{255}, nil, false},
		{[]uint64{256}, []byte{0}, true},
		{[]uint64{511}, []byte{255}, true},
		{[]uint64{512}, nil, false},
		{[]uint64{1 << 48}, make([]byte, 6), true},
		{[]uint64{1<<49 - 1}, []byte{255, 255, 255, 255, 255, 255}, true},
		{[]uint64{1 << 56}, nil, false},
		{[]uint64{1 << 55}, nil, false},
		{[]uint64{1<<64 - 1}, nil, false},
		{[]uint64{1<<56 - 1, 1}, bytes.Repeat([]byte{255}, 7), true},
		{[]uint64{1 << 56, 1}, nil, false},
		{[]uint64{5, 0}, nil, false},
		{[]uint64{0, 1}, make([]byte, 7), true},
		{[]uint64{5, 1, 0}[:2], []byte{5, 0, 0, 0, 0, 0, 0}, true},
	} {
		got, ok := Bytes(c.l)
		if ok != c.ok || !bytes.Equal(got, c.want) {
			t.Error(c.l, got, ok)
		}
		if ok && !slices.Equal(Chunks(got), c.l) {
			t.Error("other chunks", c.l, Chunks(got))
		}
	}
}

// value is the sum of the chapter.
func value(a uint64, b []byte) uint64 {
	l := Chunks(b)
	x, prime := new(big.Int).SetUint64(a), big.NewInt(p)
	sum := new(big.Int).Exp(x, big.NewInt(int64(len(l))), prime)
	for i, c := range l {
		term := new(big.Int).Exp(x, big.NewInt(int64(len(l)-1-i)), prime)
		sum.Add(sum, term.Mul(term, new(big.Int).SetUint64(c)))
	}
	return sum.Mod(sum, prime).Uint64()
}

// P25.2
func TestEvalAndAppend(t *testing.T) {
	r := rand.New(rand.NewPCG(25, 2))
	for range 500 {
		a, b := r.Uint64N(p), text(r, r.IntN(80))
		got, e := Eval(a, b)
		if got != value(a, b) || e != api.OK {
			t.Fatal(a, b, got, e)
		}
		h := uint64(1)
		for _, chunk := range Chunks(b) {
			h, _ = Append(a, h, chunk)
		}
		if h != got {
			t.Fatal("by Append", a, b)
		}
	}
	if got, _ := Eval(77, nil); got != 78 {
		t.Error("the chapter's example", got)
	}
	for _, a := range []uint64{0, 1, p - 1} {
		if got, e := Eval(a, []byte{9}); got != value(a, []byte{9}) || e != api.OK {
			t.Error(a, got, e)
		}
	}
	long := make([]byte, 4097)
	for _, c := range []struct {
		a    uint64
		b    []byte
		want api.Errno
	}{
		{1, long[:4096], api.OK}, {1, long, api.ErrLong}, {p, long, api.ErrLong}, {p, long[:4096], api.ErrDomain}, {1<<64 - 1, nil, api.ErrDomain}, {p - 1, nil, api.OK},
	} {
		if got, e := Eval(c.a, c.b); e != c.want || e != api.OK && got != 0 {
			t.Error(c.a, len(c.b), got, e)
		}
	}
	for _, c := range [][3]uint64{{p, 1, 1}, {1, p, 1}, {1, 1, p}, {1<<64 - 1, 1, 1}} {
		if got, e := Append(c[0], c[1], c[2]); got != 0 || e != api.ErrDomain {
			t.Error("Append", c, got, e)
		}
	}
	if got, e := Append(p-1, p-1, p-1); got != 0 || e != api.OK {
		t.Error("Append of the greatest numbers", got, e)
	}
}

// P25.3, P25.4
func TestDifference(t *testing.T) {
	r := rand.New(rand.NewPCG(25, 3))
	for range 500 {
		b, c := text(r, r.IntN(40)), text(r, r.IntN(40))
		if r.IntN(3) == 0 {
			c = bytes.Clone(b)
			c = append(c, text(r, r.IntN(3))...)
		}
		d := Difference(b, c)
		if len(d) > 0 && d[len(d)-1] == 0 {
			t.Fatal("not trimmed", b, c, d)
		}
		if Most(b, c) != max(len(Chunks(b)), len(Chunks(c))) {
			t.Fatal("Most", b, c)
		}
		if (len(d) == 0) != bytes.Equal(b, c) || len(d)-1 > Most(b, c) {
			t.Fatal("degree", b, c, d)
		}
		for range 5 {
			a := r.Uint64N(p)
			_, got := poly.Divide(d, a)
			if want := (value(a, b) + p - value(a, c)) % p; got != want {
				t.Fatal("value", b, c, a, got, want)
			}
		}
	}
	long := make([]byte, 9000)
	if d := Difference(long, nil); len(d) != 9000/7+2 || Most(long, nil) != 9000/7+1 {
		t.Error("strings that are too long to be hashed", len(d))
	}
}

// P25.3, P25.4
func TestMeets(t *testing.T) {
	r := rand.New(rand.NewPCG(25, 4))
	met := 0
	for range 300 {
		// Two strings of one chunk differ by a constant; of two chunks, by a line, which has a root.
		b, c := text(r, 7+r.IntN(7)), text(r, 7+r.IntN(7))
		d := Difference(b, c)
		if len(d) != 2 {
			continue
		}
		// The root of d[0] + d[1] * a.
		a := new(big.Int).ModInverse(new(big.Int).SetUint64(d[1]), big.NewInt(p))
		a.Mul(a, new(big.Int).SetUint64(p-d[0])).Mod(a, big.NewInt(p))
		if meets, e := Meets(a.Uint64(), b, c); !meets || e != api.OK {
			t.Fatal("doesn't meet", a, b, c, e)
		}
		met++
		if meets, e := Meets((a.Uint64()+1)%p, b, c); meets || e != api.OK {
			t.Fatal("meets by another seed", a, b, c, e)
		}
	}
	if met < 100 {
		t.Error("few collisions were tried", met)
	}
	long, short := make([]byte, 4097), []byte{1}
	for _, c := range []struct {
		a    uint64
		b, c []byte
		want api.Errno
	}{
		{p, long, long, api.ErrLong},
		{p, short, long, api.ErrDomain},
		{1, short, long, api.ErrLong},
		{1, long, short, api.ErrLong},
		{1, short, short, api.ErrSame},
		{1, nil, []byte{}, api.ErrSame},
		{p, short, short, api.ErrDomain},
		{1, long[:5], long[:6], api.OK},
	} {
		if meets, e := Meets(c.a, c.b, c.c); meets || e != c.want {
			t.Error(c.a, len(c.b), len(c.c), meets, e)
		}
	}
}

// P25.1 with P5: a range may be left, and repeated.
func TestChunksOneByOne(t *testing.T) {
	chunks := each(make([]byte, 30))
	for range 2 {
		n := 0
		for range chunks {
			if n++; n == 3 {
				break
			}
		}
		if n != 3 {
			t.Error(n)
		}
	}
	n := 0
	for range chunks {
		n++
	}
	if n != 5 {
		t.Error(n)
	}
}
