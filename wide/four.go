package wide

import (
	"math/bits"
	"strconv"
	"strings"

	"astragal/api"
)

// Decimal digits are handled in groups: the greatest power of ten below 2^64.
const (
	groupDigits = 19
	group       = 10000000000000000000
)

// Add4 returns the sum modulo 2^256, and whether the true sum is greater.
func Add4(a, b api.U256) (api.U256, bool) {
	var sum api.U256
	carry := uint64(0)
	for i := range len(a) {
		sum[i], carry = bits.Add64(a[i], b[i], carry)
	}
	return sum, carry == 1
}

// Sub4 returns the difference modulo 2^256, and whether the true one is negative.
func Sub4(a, b api.U256) (api.U256, bool) {
	var diff api.U256
	borrow := uint64(0)
	for i := range len(a) {
		diff[i], borrow = bits.Sub64(a[i], b[i], borrow)
	}
	return diff, borrow == 1
}

// Cmp4 returns -1, 0 or 1 if a is less than, equal to, or greater than b.
func Cmp4(a, b api.U256) int {
	if a == b {
		return 0
	}
	if _, below := Sub4(a, b); below {
		return -1
	}
	return 1
}

// Bit4 reports whether the bit n is 1.
func Bit4(a api.U256, n int) bool {
	if n < 0 || n >= 64*len(a) {
		return false
	}
	return a[n/64]>>(n%64)&1 == 1
}

// Len4 returns one more than the number of the highest bit that is 1.
func Len4(a api.U256) int {
	long := 0
	for i := range len(a) {
		if a[i] != 0 {
			long = 64*i + bits.Len64(a[i])
		}
	}
	return long
}

// Shl4 shifts to the left, modulo 2^256.
func Shl4(a api.U256, n int) api.U256 {
	var out api.U256
	k := count(n)
	if k >= uint(64*len(a)) {
		return out
	}
	words, k := int(k/64), k%64
	for i := range len(a) - words {
		out[i+words] |= a[i] << k
		if i+words+1 < len(a) {
			out[i+words+1] = a[i] >> (64 - k)
		}
	}
	return out
}

// Of4 returns the number n.
func Of4(n uint64) api.U256 {
	return api.U256{n}
}

// Text4 returns the decimal digits.
func Text4(a api.U256) string {
	text := ""
	for {
		var rest uint64
		a, rest = divide(a, group)
		digits := strconv.FormatUint(rest, 10)
		if a == (api.U256{}) {
			return digits + text
		}
		text = strings.Repeat("0", groupDigits-len(digits)) + digits + text
	}
}

// divide returns the quotient and the remainder; b is not 0.
func divide(a api.U256, b uint64) (api.U256, uint64) {
	rest := uint64(0)
	for i := range len(a) {
		at := len(a) - 1 - i
		a[at], rest = bits.Div64(rest, a[at], b)
	}
	return a, rest
}

// Read4 returns the number whose Text4 is s.
func Read4(s string) (api.U256, api.Errno) {
	if s == "" {
		return api.U256{}, api.ErrShort
	}
	if !plain(s) {
		return api.U256{}, api.ErrForm
	}
	var a api.U256
	for i := range len(s) {
		var over bool
		a, over = append10(a, uint64(s[i]-'0'))
		if over {
			return api.U256{}, api.ErrOver
		}
	}
	return a, api.OK
}

// plain reports whether s consists of digits, without leading zeros.
func plain(s string) bool {
	for i := range len(s) {
		if s[i] < '0' || s[i] > '9' {
			return false
		}
	}
	return len(s) == 1 || s[0] != '0'
}

// append10 returns a times 10 plus digit, and whether that is too great.
func append10(a api.U256, digit uint64) (api.U256, bool) {
	carry := digit
	for i := range len(a) {
		hi, lo := bits.Mul64(a[i], 10)
		lo, over := bits.Add64(lo, carry, 0)
		a[i], carry = lo, hi+over
	}
	return a, carry != 0
}
