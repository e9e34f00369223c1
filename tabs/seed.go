package tabs

import "astragal/api"

// Check returns what is wrong with a seed and a number of bits.
func Check(words []uint64, bits int) api.Errno {
	if bits < 1 || bits > hashBits {
		return api.ErrArg
	}
	if len(words) != seedWords {
		return api.ErrSeed
	}
	return api.OK
}

// Eval returns the hash value of x.
func Eval(words []uint64, bits int, x uint64) (uint64, api.Errno) {
	if e := Check(words, bits); e != api.OK {
		return 0, e
	}
	if !fits(x, keyBits) {
		return 0, api.ErrDomain
	}
	sum, e := Sum(words, Chars(x, api.Chars))
	return lowest(sum, bits), e
}

// fits reports whether a word has at most n bits.
func fits(x uint64, n int) bool {
	return x>>n == 0
}

// lowest returns the n lowest bits.
func lowest(x uint64, n int) uint64 {
	return x << (hashBits - n) >> (hashBits - n)
}

// Shift returns the seed that maps xs to ys, and else is like words.
func Shift(words []uint64, bits int, xs, ys []uint64) ([]uint64, api.Errno) {
	if e := checkShift(words, bits, xs, ys); e != api.OK {
		return nil, e
	}
	rows, by := make([][]int, len(xs)), make([]uint64, len(xs))
	for i, x := range xs {
		value, _ := Eval(words, bits, x)
		rows[i], by[i] = Chars(x, api.Chars), value^ys[i]
	}
	return Aim(words, rows, by)
}

// checkShift returns what is wrong with the arguments of Shift.
func checkShift(words []uint64, bits int, xs, ys []uint64) api.Errno {
	if e := Check(words, bits); e != api.OK {
		return e
	}
	if len(xs) == 0 || len(xs) > mostRows || len(ys) != len(xs) {
		return api.ErrArg
	}
	for i, x := range xs {
		if !fits(x, keyBits) || !fits(ys[i], bits) {
			return api.ErrDomain
		}
	}
	for i, x := range xs {
		for _, former := range xs[:i] {
			if former == x {
				return api.ErrSame
			}
		}
	}
	return api.OK
}
