package load

import (
	"bytes"
	"encoding/binary"
	"fmt"
	"math"
	"math/bits"
	"math/rand/v2"
	"testing"
)

func someBytes(r *rand.Rand, n int) []byte {
	b := make([]byte, n)
	for i := range b {
		b[i] = byte(r.Uint32())
	}
	return b
}

// P2.1
func TestReading(t *testing.T) {
	r := rand.New(rand.NewPCG(2, 1))
	for n := range 30 {
		b := someBytes(r, n)
		for at := -3; at < n+3; at++ {
			want4, ok4 := uint32(0), at >= 0 && at+4 <= n
			if ok4 {
				want4 = binary.LittleEndian.Uint32(b[at:])
			}
			if got, ok := Le32(b, at); got != want4 || ok != ok4 {
				t.Fatal("Le32", n, at, got, ok)
			}
			want8, ok8 := uint64(0), at >= 0 && at+8 <= n
			if ok8 {
				want8 = binary.LittleEndian.Uint64(b[at:])
			}
			if got, ok := Le64(b, at); got != want8 || ok != ok8 {
				t.Fatal("Le64", n, at, got, ok)
			}
		}
		for _, at := range []int{math.MinInt, math.MinInt + 7, math.MaxInt, math.MaxInt - 3} {
			if got, ok := Le32(b, at); got != 0 || ok {
				t.Fatal("Le32 far", at)
			}
			if got, ok := Le64(b, at); got != 0 || ok {
				t.Fatal("Le64 far", at)
			}
		}
		var whole [8]byte
		copy(whole[:], b)
		if got := Tail(b); got != binary.LittleEndian.Uint64(whole[:]) {
			t.Fatal("Tail", b, got)
		}
	}
	if Tail([]byte{1, 2}) != 513 || Tail(nil) != 0 {
		t.Error("the chapter's example")
	}
	if _, ok := Le32(make([]byte, 3, 8), 0); ok {
		t.Error("read what lies behind the list")
	}
}

// P2.1
func TestWriting(t *testing.T) {
	r := rand.New(rand.NewPCG(2, 2))
	for n := range 20 {
		behind := bytes.Repeat([]byte{7}, n+16)
		b := behind[:n]
		for range 20 {
			x := r.Uint64()
			got := Put64(b, x)
			if !bytes.Equal(got, binary.LittleEndian.AppendUint64(bytes.Clone(b), x)) {
				t.Fatal("Put64", b, x, got)
			}
			clear(got)
			got = Put32(b, uint32(x))
			if !bytes.Equal(got, binary.LittleEndian.AppendUint32(bytes.Clone(b), uint32(x))) {
				t.Fatal("Put32", b, x, got)
			}
			clear(got)
			if !bytes.Equal(behind, bytes.Repeat([]byte{7}, n+16)) {
				t.Fatal("the result shares memory with the argument, or what lies behind it was written")
			}
		}
	}
	if !bytes.Equal(Put32(nil, 1), []byte{1, 0, 0, 0}) || len(Put64(nil, 0)) != 8 {
		t.Error("nil")
	}
}

// P2.2
func TestRotations(t *testing.T) {
	r := rand.New(rand.NewPCG(2, 3))
	for range 200 {
		x := r.Uint64()
		for n := -200; n < 200; n++ {
			k := ((n % 64) + 64) % 64
			if Rot64(x, n) != x<<k|x>>(64-k) {
				t.Fatal("Rot64", x, n)
			}
			y := uint32(x)
			k %= 32
			if Rot32(y, n) != y<<k|y>>(32-k) {
				t.Fatal("Rot32", y, n)
			}
		}
		if Rot64(x, math.MinInt) != x || Rot32(uint32(x), math.MinInt) != uint32(x) || Rot64(x, math.MaxInt) != bits.RotateLeft64(x, 63) {
			t.Fatal("the ends of int")
		}
		b := binary.LittleEndian.AppendUint64(nil, x)
		if Swap64(x) != binary.BigEndian.Uint64(b) {
			t.Fatal("Swap64", x)
		}
	}
	if Rot32(1, -1) != 1<<31 {
		t.Error("the chapter's example")
	}
}

// P2.3
func TestHex(t *testing.T) {
	r := rand.New(rand.NewPCG(2, 4))
	for range 2000 {
		n := r.Uint64() >> r.IntN(64)
		if Hex(n) != fmt.Sprintf("%016x", n) {
			t.Fatal(n, Hex(n))
		}
	}
	for _, s := range []string{
		"", "0", "000000000000000", "00000000000000000", "000000000000000A", "000000000000000g",
		"0x00000000000000", " 000000000000000", "-000000000000001", "+000000000000001", "00000000000000é",
		"000000000000000`", "000000000000000/", "000000000000000:", "000000000000000\x00",
	} {
		if n, ok := Unhex(s); ok || n != 0 {
			t.Errorf("%q %v", s, n)
		}
	}
}

// P2.4
func TestRoundTrip(t *testing.T) {
	r := rand.New(rand.NewPCG(2, 5))
	for range 2000 {
		n, at := r.Uint64()>>r.IntN(64), r.IntN(12)
		b := someBytes(r, at)
		if got, ok := Le64(Put64(b, n), at); got != n || !ok {
			t.Fatal(n, got, ok)
		}
		if got, ok := Le32(Put32(b, uint32(n)), at); got != uint32(n) || !ok {
			t.Fatal(n, got, ok)
		}
		if got, ok := Unhex(Hex(n)); got != n || !ok {
			t.Fatal(n, got, ok)
		}
	}
}
