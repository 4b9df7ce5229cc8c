// Package num is layer 1: checked whole numbers, and decimals of four places
// as whole numbers of units.
package num

import (
	"math"
	"math/bits"

	"witan/api"
)

// Add tells a + b, or ErrOver.
func Add(a, b int64) (int64, api.Errno) {
	sum := a + b
	// Only a sum that wrapped round lies on the wrong side of a.
	if (sum < a) != (b < 0) {
		return 0, api.ErrOver
	}
	return sum, api.OK
}

// Sub tells a - b, or ErrOver.
func Sub(a, b int64) (int64, api.Errno) {
	difference := a - b
	// Only a difference that wrapped round lies on the wrong side of a.
	if (difference > a) != (b < 0) {
		return 0, api.ErrOver
	}
	return difference, api.OK
}

// Mul tells a * b, or ErrOver.
func Mul(a, b int64) (int64, api.Errno) {
	high, low := bits.Mul64(magnitude(a), magnitude(b))
	if high != 0 {
		return 0, api.ErrOver
	}
	return signer(a, b)(low)
}

// Quo tells a / b, rounded towards 0; ErrDiv, or ErrOver.
func Quo(a, b int64) (int64, api.Errno) {
	if b == 0 {
		return 0, api.ErrDiv
	}
	return signer(a, b)(magnitude(a) / magnitude(b))
}

// Mod tells what Quo leaves of a, or ErrDiv.
func Mod(a, b int64) (int64, api.Errno) {
	if b == 0 {
		return 0, api.ErrDiv
	}
	// No ErrOver here: the rest by -1 is 0 for the least int64 too, though the quotient is no int64.
	return a % b, api.OK
}

// Scale tells the whole number a in units, or ErrOver.
func Scale(a int64) (int64, api.Errno) {
	return Mul(a, api.Unit)
}

// MulDec tells the product of two decimals, rounded, in units; or ErrOver.
func MulDec(a, b int64) (int64, api.Errno) {
	high, low := bits.Mul64(magnitude(a), magnitude(b))
	quotient, e := roundedQuotient(high, low, api.Unit)
	if e != api.OK {
		return 0, e
	}
	return signer(a, b)(quotient)
}

// DivDec tells the quotient of two decimals, rounded, in units; ErrDiv, or ErrOver.
func DivDec(a, b int64) (int64, api.Errno) {
	if b == 0 {
		return 0, api.ErrDiv
	}
	high, low := bits.Mul64(magnitude(a), api.Unit)
	quotient, e := roundedQuotient(high, low, magnitude(b))
	if e != api.OK {
		return 0, e
	}
	return signer(a, b)(quotient)
}

// magnitude is unsigned because the least int64 without its sign is no int64.
func magnitude(a int64) uint64 {
	if a < 0 {
		return -uint64(a)
	}
	return uint64(a)
}

// signer makes what tells a magnitude with the sign that a product or a
// quotient of a and b has; ErrOver, if that is no int64.
func signer(a, b int64) func(size uint64) (int64, api.Errno) {
	return func(size uint64) (int64, api.Errno) {
		negative := (a < 0) != (b < 0)
		switch {
		case negative && size <= 1<<63:
			return int64(-size), api.OK
		case !negative && size <= math.MaxInt64:
			return int64(size), api.OK
		}
		return 0, api.ErrOver
	}
}

// roundedQuotient divides the 128 bits of high and low by a divisor that is
// not 0. It knows no sign: rounding to the even one is the same on both sides of 0.
func roundedQuotient(high, low, divisor uint64) (uint64, api.Errno) {
	// bits.Div64 panics where the quotient has more than 64 bits.
	if high >= divisor {
		return 0, api.ErrOver
	}
	quotient, rest := bits.Div64(high, low, divisor)
	// Told ahead of rounding, which would wrap the greatest quotient round to 0.
	if quotient > 1<<63 {
		return 0, api.ErrOver
	}
	// The rest is held against what lacks, as twice the rest may have 65 bits.
	lack := divisor - rest
	if rest > lack || rest == lack && quotient%2 == 1 {
		quotient++
	}
	return quotient, api.OK
}
