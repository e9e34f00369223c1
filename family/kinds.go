package family

import (
	"astragal/api"
	"astragal/load"
	"astragal/madd"
	"astragal/mixed"
	"astragal/mshift"
	"astragal/poly"
	"astragal/strpoly"
	"astragal/tabs"
	"astragal/through"
	"astragal/twist"
)

const (
	primeBits = 61 // the bits of hash values modulo poly.P, and of keys below it
	wordBits  = 64
	shortBits = 32
	rows      = 3 // the keys that a tabulation maps evenly together
)

// family is what a kind has and does.
type family struct {
	name                string
	least, most         int // words of a seed
	leastBits, mostBits int // bits of a hash value
	keys                int // bits of a key
	check               func(s api.Seed) api.Errno
	together            func(s api.Seed) int
	eval                func(s api.Seed, x uint64) (uint64, api.Errno)
	shift               func(s api.Seed, xs, ys []uint64) ([]uint64, api.Errno)
}

// familyOf returns the family of a kind, if there is one.
func familyOf(kind int) (family, bool) {
	switch kind {
	case api.FamPoly:
		return ofPoly(), true
	case api.FamOdd:
		return ofOdd(), true
	case api.FamAdd:
		fallthrough
	case api.FamWide:
		return ofSum(kind), true
	case api.FamSimple:
		return ofTable("simple", api.Chars*api.Letters, tabs.Eval, tabs.Shift), true
	case api.FamTwisted:
		return ofTable("twisted", twist.Words, twist.Eval, twist.Shift), true
	case api.FamMixed:
		return ofTable("mixed", mixed.Words, mixed.Eval, mixed.Shift), true
	case api.FamString:
		return ofString(), true
	}
	return family{}, false
}

// allWords says that a seed may have any words.
func allWords(api.Seed) api.Errno { return api.OK }

// constant says that every seed maps n keys evenly together.
func constant(n int) func(api.Seed) int {
	return func(api.Seed) int { return n }
}

func ofPoly() family {
	return family{
		name:  "poly",
		least: 1, most: api.MaxCoefs,
		leastBits: primeBits, mostBits: primeBits,
		keys:     primeBits,
		check:    func(s api.Seed) api.Errno { return poly.Check(s.Words) },
		together: func(s api.Seed) int { return len(s.Words) },
		eval: func(s api.Seed, x uint64) (uint64, api.Errno) {
			return poly.Eval(s.Words, x)
		},
		shift: func(s api.Seed, xs, ys []uint64) ([]uint64, api.Errno) {
			return through.Shift(s.Words, xs, ys)
		},
	}
}

func ofOdd() family {
	return family{
		name:  "odd",
		least: 1, most: 1,
		leastBits: 1, mostBits: wordBits,
		keys:     wordBits,
		check:    func(s api.Seed) api.Errno { return mshift.Check(s.Words[0], s.Bits) },
		together: constant(0),
		eval: func(s api.Seed, x uint64) (uint64, api.Errno) {
			return mshift.Eval(s.Words[0], s.Bits, x)
		},
	}
}

// numbers returns the two numbers of a seed of FamAdd or FamWide.
func numbers(s api.Seed) (api.U128, api.U128) {
	w := s.Words
	if s.Kind == api.FamAdd {
		return api.U128{Lo: w[0]}, api.U128{Lo: w[1]}
	}
	return api.U128{Lo: w[0], Hi: w[1]}, api.U128{Lo: w[2], Hi: w[3]}
}

func ofSum(kind int) family {
	f := family{name: "wide", least: 4, most: 4, leastBits: 1, mostBits: wordBits, keys: wordBits}
	if kind == api.FamAdd {
		f = family{name: "add", least: 2, most: 2, leastBits: 1, mostBits: shortBits, keys: shortBits}
	}
	f.check, f.together = allWords, constant(2)
	f.eval = func(s api.Seed, x uint64) (uint64, api.Errno) {
		a, b := numbers(s)
		return madd.Eval(s.Kind, s.Bits, a, b, x)
	}
	f.shift = func(s api.Seed, xs, ys []uint64) ([]uint64, api.Errno) {
		if len(xs) == 1 {
			// A neighbour, whose hash value remains, is the second key.
			second := xs[0] ^ 1
			value, e := f.eval(s, second)
			if e != api.OK {
				return nil, e
			}
			xs, ys = []uint64{xs[0], second}, []uint64{ys[0], value}
		}
		a, b := numbers(s)
		a, b, e := madd.Shift(s.Kind, s.Bits, a, b, xs[0], xs[1], ys[0], ys[1])
		if e != api.OK {
			return nil, e
		}
		if s.Kind == api.FamAdd {
			return []uint64{a.Lo, b.Lo}, api.OK
		}
		return []uint64{a.Lo, a.Hi, b.Lo, b.Hi}, api.OK
	}
	return f
}

// evalOf and shiftOf are the functions of a tabulation.
type evalOf func(words []uint64, bits int, x uint64) (uint64, api.Errno)
type shiftOf func(words []uint64, bits int, xs, ys []uint64) ([]uint64, api.Errno)

func ofTable(name string, words int, eval evalOf, shift shiftOf) family {
	return family{
		name:  name,
		least: words, most: words,
		leastBits: 1, mostBits: wordBits,
		keys:     shortBits,
		check:    allWords,
		together: constant(rows),
		eval: func(s api.Seed, x uint64) (uint64, api.Errno) {
			return eval(s.Words, s.Bits, x)
		},
		shift: func(s api.Seed, xs, ys []uint64) ([]uint64, api.Errno) {
			return shift(s.Words, s.Bits, xs, ys)
		},
	}
}

func ofString() family {
	return family{
		name:  "string",
		least: 1, most: 1,
		leastBits: primeBits, mostBits: primeBits,
		keys: wordBits,
		check: func(s api.Seed) api.Errno {
			if s.Words[0] >= poly.P {
				return api.ErrDomain
			}
			return api.OK
		},
		together: constant(0),
		eval: func(s api.Seed, x uint64) (uint64, api.Errno) {
			return strpoly.Eval(s.Words[0], load.Put64(nil, x))
		},
	}
}
