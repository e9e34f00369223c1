package mix

import (
	"math"
	"math/rand/v2"
	"testing"
)

// P7.1
func TestFold(t *testing.T) {
	r := rand.New(rand.NewPCG(7, 1))
	for range 200 {
		z := r.Uint64()
		for n := 1; n < 64; n++ {
			if Fold(z, n) != z^z>>n {
				t.Fatal(z, n)
			}
		}
		for _, n := range []int{0, -1, -64, math.MinInt} {
			if Fold(z, n) != z^z>>1 || Unfold(z, n) != Unfold(z, 1) {
				t.Fatal("less than 1 counts as 1", z, n)
			}
		}
		for _, n := range []int{64, 65, 128, math.MaxInt} {
			if Fold(z, n) != z^z>>63 || Unfold(z, n) != Unfold(z, 63) {
				t.Fatal("more than 63 counts as 63", z, n)
			}
		}
	}
}

// P7.1, against the steps written out.
func TestMixers(t *testing.T) {
	r := rand.New(rand.NewPCG(7, 2))
	for range 5000 {
		z := r.Uint64() >> r.IntN(64)
		s := z
		s = (s ^ s>>30) * 0xbf58476d1ce4e5b9
		s = (s ^ s>>27) * 0x94d049bb133111eb
		s ^= s >> 31
		if Split(z) != s {
			t.Fatal("Split", z)
		}
		f := z
		f = (f ^ f>>33) * 0xff51afd7ed558ccd
		f = (f ^ f>>33) * 0xc4ceb9fe1a85ec53
		f ^= f >> 33
		if Fmix64(z) != f {
			t.Fatal("Fmix64", z)
		}
		h := uint32(z)
		h = (h ^ h>>16) * 0x85ebca6b
		h = (h ^ h>>13) * 0xc2b2ae35
		h ^= h >> 16
		if Fmix32(uint32(z)) != h {
			t.Fatal("Fmix32", z)
		}
	}
	if Split(0) != 0 || Fmix32(1) != 0x514e28b7 || Fmix64(0) != 0 || Fmix32(0) != 0 {
		t.Error("the chapter's examples")
	}
	if Split(0x9e3779b97f4a7c15) != 0xe220a8397b1dcdaf {
		t.Error("the first word of SplitMix64")
	}
}

// P7.2, P7.3
func TestInverses(t *testing.T) {
	r := rand.New(rand.NewPCG(7, 3))
	words := []uint64{0, 1, 1<<32 - 1, 1 << 32, 1 << 63, 1<<64 - 1}
	for range 3000 {
		words = append(words, r.Uint64()>>r.IntN(64))
	}
	for _, z := range words {
		if Unsplit(Split(z)) != z || Split(Unsplit(z)) != z {
			t.Fatal("Split", z)
		}
		if Unfmix64(Fmix64(z)) != z || Fmix64(Unfmix64(z)) != z {
			t.Fatal("Fmix64", z)
		}
		if h := uint32(z); Unfmix32(Fmix32(h)) != h || Fmix32(Unfmix32(h)) != h {
			t.Fatal("Fmix32", z)
		}
		for n := -2; n < 67; n++ {
			if Unfold(Fold(z, n), n) != z || Fold(Unfold(z, n), n) != z {
				t.Fatal("Fold", z, n)
			}
		}
	}
}
