// Package limb is layer 1: one limb, and what it carries. See shared/doc/01-limb.md.
package limb

import (
	"trivium/api"
)

const (
	width        = 32 // bits of a limb
	base  uint64 = 1 << width
)

// low is the limb that counts of a number that is handed in.
func low(n uint64) uint64 { return n % base }

// split is the lowest limb of a number, and what is above it.
func split(n uint64) (uint64, uint64) { return n % base, n / base }

// Add is the lowest limb of the sum of the three, and what is above it.
func Add(a, b, c uint64) (uint64, uint64) {
	return split(low(a) + low(b) + low(c))
}

// Sub is the limb of a less b and c, and how often 2 to the 32 had to be lent to it.
func Sub(a, b, c uint64) (uint64, uint64) {
	rest, taken := low(a), low(b)+low(c)
	lent := uint64(0)
	for rest < taken { // twice at most: b and c are less than 2 to the 33 together
		rest += base
		lent++
	}
	return rest - taken, lent
}

// Mul is the lowest limb of a times b, and c and d, and the next one.
func Mul(a, b, c, d uint64) (uint64, uint64) {
	// Limbs as great as can be make just 2 to the 64 less 1: two limbs always do.
	return split(low(a)*low(b) + low(c) + low(d))
}

// Div divides hi times 2 to the 32, and lo, by d: the quotient, and what is left.
// ErrZero: d is 0. ErrArg: hi is d or more, so that the quotient is no limb.
func Div(hi, lo, d uint64) (uint64, uint64, api.Errno) {
	hi, d = low(hi), low(d)
	if d == 0 {
		return 0, 0, api.ErrZero
	}
	if hi >= d {
		return 0, 0, api.ErrArg
	}
	n := hi*base + low(lo)
	return n / d, n % d, api.OK
}

// Bits is how many bits a needs; 0 needs none.
func Bits(a uint64) int {
	a = low(a)
	for n := range width {
		if a>>n == 0 {
			return n
		}
	}
	return width
}

// Zeros is how many of the lowest bits of a are 0 ahead of the first 1; all of them, where there is no 1.
func Zeros(a uint64) int {
	a = low(a)
	for n := range width {
		if a>>n&1 == 1 {
			return n
		}
	}
	return width
}

// Gcd is the greatest number that divides both; 0 of 0 and 0.
func Gcd(a, b uint64) uint64 {
	a, b = low(a), low(b)
	for b != 0 {
		a, b = b, a%b
	}
	return a
}
