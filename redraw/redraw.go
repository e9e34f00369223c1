// Package redraw replaces words of a tape, so that its draws (chapter 38)
// yield other numbers, with the same ranks and the same numbers of words. The
// layers that aim orders, sets and slots share it.
package redraw

import (
	"slices"

	"astragal/api"
	"astragal/lemire"
)

// Words returns words, in which the word that each draw accepted for its limit
// is replaced by the one that yields the corresponding one of numbers. There
// are as many limits and numbers as draws.
func Words(words []uint64, draws []api.Draw, limits, numbers []int) ([]uint64, api.Errno) {
	out := slices.Clone(words)
	at := -1
	for i, d := range draws {
		at += d.Used
		w, e := lemire.Word(uint64(numbers[i]), d.Rank, uint64(limits[i]))
		if e != api.OK {
			return nil, e
		}
		out[at] = w
	}
	return out, api.OK
}
