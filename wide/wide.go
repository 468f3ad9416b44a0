// Package wide computes with unsigned numbers of 128 bits, so that products of coordinates stay exact.
package wide

import (
	"heliograph/api"
)

// A product is made of halves: the product of two halves fits into 64 bits.
const (
	half = 32
	low  = 1<<half - 1
)

// Abs returns the absolute value of v.
func Abs(v int64) uint64 {
	if v < 0 {
		// Negated as an unsigned number, since the smallest int64 has no positive counterpart.
		return -uint64(v)
	}
	return uint64(v)
}

// Mul returns the product of a and b.
func Mul(a, b uint64) api.Wide {
	a1, a0 := a>>half, a&low
	b1, b0 := b>>half, b&low
	// Neither sum can overflow: (2^32 - 1)^2 + 2 * (2^32 - 1) is 2^64 - 1.
	first := a1*b0 + a0*b0>>half
	second := a0*b1 + first&low
	return api.Wide{Hi: a1*b1 + first>>half + second>>half, Lo: a * b}
}

// Sq returns the square of v.
func Sq(v int64) api.Wide {
	n := Abs(v)
	return Mul(n, n)
}

// Add returns the sum of a and b, or false if it is 2^128 or more.
func Add(a, b api.Wide) (api.Wide, bool) {
	lo, carry := addWord(a.Lo, b.Lo, 0)
	hi, over := addWord(a.Hi, b.Hi, carry)
	if over > 0 {
		return api.Wide{}, false
	}
	return api.Wide{Hi: hi, Lo: lo}, true
}

// Cmp returns -1, 0 or 1 if a is less than, equal to or greater than b.
func Cmp(a, b api.Wide) int {
	if a.Hi != b.Hi {
		return cmpWord(a.Hi, b.Hi)
	}
	return cmpWord(a.Lo, b.Lo)
}

// addWord returns the low 64 bits of a + b + carry, and what is carried on, 0 or 1.
func addWord(a, b, carry uint64) (uint64, uint64) {
	sum := a + b
	total := sum + carry
	// At most one of the two additions wraps round, as carry is at most 1.
	if sum < a || total < sum {
		return total, 1
	}
	return total, 0
}

func cmpWord(a, b uint64) int {
	if a < b {
		return -1
	}
	if a > b {
		return 1
	}
	return 0
}
