package seal

import (
	"bytes"
	"errors"
	"fmt"
	"math"
	"math/rand/v2"
	"testing"

	"astragal/api"
	"astragal/mix"
)

func someBytes(r *rand.Rand, n int) []byte {
	b := make([]byte, n)
	for i := range b {
		b[i] = byte(r.Uint32())
	}
	return b
}

// P16.1
func TestSum(t *testing.T) {
	r := rand.New(rand.NewPCG(16, 1))
	for n := range 300 {
		b := someBytes(r, n)
		h := uint32(n)
		for _, c := range b {
			h = mix.Fmix32(h^uint32(c)) + 1
		}
		if Sum(b) != h {
			t.Fatal(b)
		}
	}
	if Sum(nil) != 0 || Sum([]byte{1}) != 1 || Sum([]byte{0}) != 0x514e28b8 {
		t.Error("short ones", Sum(nil), Sum([]byte{1}), Sum([]byte{0}))
	}
}

// P16.1, P16.3
func TestSealAndOpen(t *testing.T) {
	r := rand.New(rand.NewPCG(16, 2))
	for n := range 100 {
		whole := someBytes(r, n+8)
		b, before := whole[:n], bytes.Clone(whole)
		sealed := Seal(b)
		sum := Sum(b)
		want := append(bytes.Clone(b), byte(sum), byte(sum>>8), byte(sum>>16), byte(sum>>24))
		if !bytes.Equal(sealed, want) {
			t.Fatal("Seal", b, sealed)
		}
		opened, e := Open(sealed)
		if e != api.OK || !bytes.Equal(opened, b) {
			t.Fatal("Open", b, opened, e)
		}
		clear(opened)
		if !bytes.Equal(sealed, want) {
			t.Fatal("the result shares memory with the argument")
		}
		clear(sealed)
		if !bytes.Equal(whole, before) {
			t.Fatal("the argument was changed")
		}
	}
}

// P16.1
func TestOpenErrors(t *testing.T) {
	for n := range 4 {
		if b, e := Open(make([]byte, n)); b != nil || e != api.ErrShort {
			t.Error(n, b, e)
		}
	}
	if b, e := Open(make([]byte, 3, 8)); b != nil || e != api.ErrShort {
		t.Error("what lies behind the list was read", b, e)
	}
	if b, e := Open(make([]byte, 4)); len(b) != 0 || e != api.OK {
		t.Error("no bytes, sealed", b, e)
	}
	if b, e := Open([]byte{0, 0, 0, 1}); b != nil || e != api.ErrSum {
		t.Error("a wrong checksum", b, e)
	}
	if b, e := Open(Seal([]byte{1, 2, 3})[:6]); b != nil || e != api.ErrSum {
		t.Error("a byte is missing", b, e)
	}
}

// P16.3: every change of one byte is found.
func TestOneByteChanged(t *testing.T) {
	r := rand.New(rand.NewPCG(16, 3))
	for n := range 20 {
		sealed := Seal(someBytes(r, n))
		for i := range sealed {
			for by := 1; by < 256; by++ {
				sealed[i] ^= byte(by)
				if b, e := Open(sealed); b != nil || e != api.ErrSum {
					t.Fatal(n, i, by, e)
				}
				sealed[i] ^= byte(by)
			}
		}
	}
}

type wrapping struct{ inner error }

func (w wrapping) Error() string { return "wrapping" }
func (w wrapping) Unwrap() error { return w.inner }

type panicking struct{}

func (p *panicking) Error() string { panic("Error") }
func (p *panicking) Unwrap() error { panic("Unwrap") }

type lists []int

func (l lists) Error() string { return "not comparable" }

// P16.2
func TestErrors(t *testing.T) {
	names := []string{"", "arg", "domain", "short", "long", "form", "kind", "exhausted", "zero", "over", "nil", "handle", "full", "seed", "sum", "same"}
	for e := api.Errno(-3); e < 20; e++ {
		if e == api.OK {
			continue
		}
		name := "?"
		if e > 0 && int(e) < len(names) {
			name = names[e]
		}
		for _, at := range []int{-1, 0, 1, 77, -2, math.MaxInt, math.MinInt} {
			word := name
			if at != -1 {
				word = fmt.Sprintf("%s at %d", name, at)
			}
			plain := Wrap(e, at)
			for _, err := range []error{plain, wrapping{plain}, fmt.Errorf("a %w", wrapping{plain}), errors.Join(errors.New("b"), plain)} {
				if Errno(err) != e || At(err) != at || Word(err) != word {
					t.Error(e, at, Errno(err), At(err), Word(err))
				}
			}
			if plain.Error() == "" {
				t.Error("no text", e, at)
			}
		}
	}
	if err := Wrap(api.ErrLong, 3); Errno(err) != api.ErrLong || At(err) != 3 || Word(err) != "long at 3" {
		t.Error("the chapter's example")
	}
}

// P16.2
func TestNoErrorsAndOthers(t *testing.T) {
	if Wrap(api.OK, 5) != nil || Wrap(api.OK, -1) != nil {
		t.Error("OK is no error")
	}
	if Errno(nil) != api.OK || At(nil) != -1 || Word(nil) != "ok" {
		t.Error("nil")
	}
	var none *panicking
	for _, err := range []error{errors.New("x"), wrapping{errors.New("y")}, wrapping{nil}, lists{1}, wrapping{lists{2}}, none, wrapping{none}, errors.Join(none), errors.Unwrap(Wrap(api.ErrArg, 2))} {
		if Errno(err) != api.ErrForm || At(err) != -1 || Word(err) != "form" {
			t.Errorf("%T %v %v %v", err, Errno(err), At(err), Word(err))
		}
	}
}
