// Package wide is layer 1: unsigned integers of 128 and 256 bits.
package wide

import (
	"math/bits"

	"astragal/api"
)

// Mul returns the exact product.
func Mul(a, b uint64) api.U128 {
	hi, lo := bits.Mul64(a, b)
	return api.U128{Hi: hi, Lo: lo}
}

// Add returns the sum modulo 2^128, and whether the true sum is greater.
func Add(a, b api.U128) (api.U128, bool) {
	lo, carry := bits.Add64(a.Lo, b.Lo, 0)
	hi, carry := bits.Add64(a.Hi, b.Hi, carry)
	return api.U128{Hi: hi, Lo: lo}, carry == 1
}

// Sub returns the difference modulo 2^128, and whether the true one is negative.
func Sub(a, b api.U128) (api.U128, bool) {
	lo, borrow := bits.Sub64(a.Lo, b.Lo, 0)
	hi, borrow := bits.Sub64(a.Hi, b.Hi, borrow)
	return api.U128{Hi: hi, Lo: lo}, borrow == 1
}

// Times returns the product modulo 2^128.
func Times(a, b api.U128) api.U128 {
	p := Mul(a.Lo, b.Lo)
	p.Hi += a.Hi*b.Lo + a.Lo*b.Hi
	return p
}

// Full returns the exact product.
func Full(a, b api.U128) api.U256 {
	x := [2]uint64{a.Lo, a.Hi}
	y := [2]uint64{b.Lo, b.Hi}
	var p api.U256
	for i := range len(x) {
		carry := uint64(0)
		for j := range len(y) {
			hi, lo := bits.Mul64(x[i], y[j])
			// A product and two further words still fit two words.
			lo, over := bits.Add64(lo, p[i+j], 0)
			hi += over
			lo, over = bits.Add64(lo, carry, 0)
			p[i+j], carry = lo, hi+over
		}
		p[i+len(y)] = carry
	}
	return p
}

// Cmp returns -1, 0 or 1 if a is less than, equal to, or greater than b.
func Cmp(a, b api.U128) int {
	if a == b {
		return 0
	}
	if _, below := Sub(a, b); below {
		return -1
	}
	return 1
}

// Shl shifts to the left, modulo 2^128.
func Shl(a api.U128, n int) api.U128 {
	k := count(n)
	if k >= 64 {
		return api.U128{Hi: a.Lo << (k - 64)}
	}
	return api.U128{Hi: a.Hi<<k | a.Lo>>(64-k), Lo: a.Lo << k}
}

// Shr shifts to the right.
func Shr(a api.U128, n int) api.U128 {
	k := count(n)
	if k >= 64 {
		return api.U128{Lo: a.Hi >> (k - 64)}
	}
	return api.U128{Hi: a.Hi >> k, Lo: a.Lo>>k | a.Hi<<(64-k)}
}

// count is the number of bits that n shifts by.
func count(n int) uint {
	return uint(max(n, 0))
}

// Div returns the quotient and the remainder, or 0 and 0 for b = 0.
func Div(a api.U128, b uint64) (api.U128, uint64) {
	if b == 0 {
		return api.U128{}, 0
	}
	hi, rest := bits.Div64(0, a.Hi, b)
	lo, rest := bits.Div64(rest, a.Lo, b)
	return api.U128{Hi: hi, Lo: lo}, rest
}
