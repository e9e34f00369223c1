package redraw

import (
	"slices"
	"testing"

	"astragal/api"
	"astragal/lemire"
	"astragal/tape"
)

func TestWords(t *testing.T) {
	words := []uint64{1 << 63, 0, 1<<63 + 1, 5}
	limits := []int{10, 3}
	var draws []api.Draw
	p := tape.New(words)
	for _, n := range limits {
		d, e := lemire.Take(p, uint64(n))
		if e != api.OK {
			t.Fatal(e)
		}
		draws = append(draws, d)
	}
	got, e := Words(words, draws, limits, []int{2, 0})
	if e != api.OK {
		t.Fatal(e)
	}
	p = tape.New(got)
	for i, want := range []uint64{2, 0} {
		d, e := lemire.Take(p, uint64(limits[i]))
		if e != api.OK || d != (api.Draw{N: want, Rank: draws[i].Rank, Used: draws[i].Used}) {
			t.Error(i, d, e)
		}
	}
	if back, e := Words(got, draws, limits, []int{int(draws[0].N), int(draws[1].N)}); e != api.OK || !slices.Equal(back, words) {
		t.Error("not back", back, e)
	}
	if got, e := Words(words, draws, limits, []int{2, 3}); got != nil || e != api.ErrDomain {
		t.Error("a number that there is not", got, e)
	}
	if !slices.Equal(words, []uint64{1 << 63, 0, 1<<63 + 1, 5}) {
		t.Error("the argument was changed")
	}
}
