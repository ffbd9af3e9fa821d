// Package whole is layer 1: it computes with whole numbers of any size. See shared/doc/01-whole.md.
package whole

import (
	"slices"

	"annuitant/api"
)

// Limits and errors.
const (
	MaxWide           = 4 * api.MaxLimbs // limbs of a whole number
	ErrText api.Errno = 10               // a text that is not a decimal form
	ErrZero api.Errno = 11               // division by zero
)

// Valid reports whether a is valid.
func Valid(a api.Whole) bool {
	n := len(a.Limbs)
	if n == 0 {
		return !a.Neg
	}
	return n <= MaxWide && a.Limbs[n-1] != 0
}

// Same reports whether a and b have the same sign and the same limbs, be they valid or not.
func Same(a, b api.Whole) bool {
	return a.Neg == b.Neg && slices.Equal(a.Limbs, b.Limbs)
}

// FromInt returns n.
func FromInt(n int) api.Whole {
	size := uint64(n)
	if n < 0 {
		size = -size // also right for -2^63, whose absolute value no int has
	}
	return signed(n < 0, limbsOf(size))
}

// Int returns a as an int.
func Int(a api.Whole) (int, api.Errno) {
	if !allValid(a) {
		return 0, api.ErrArg
	}
	size, ok := word(a.Limbs)
	switch {
	case !ok:
		return 0, api.ErrLong
	case a.Neg && size <= 1<<63:
		return int(-size), api.OK
	case !a.Neg && size < 1<<63:
		return int(size), api.OK
	}
	return 0, api.ErrLong
}

// Add returns a + b.
func Add(a, b api.Whole) (api.Whole, api.Errno) {
	return join(sum, a, b)
}

// Sub returns a - b.
func Sub(a, b api.Whole) (api.Whole, api.Errno) {
	return join(difference, a, b)
}

// Mul returns a * b.
func Mul(a, b api.Whole) (api.Whole, api.Errno) {
	return join(product, a, b)
}

// DivMod returns the quotient and the remainder of a and b.
func DivMod(a, b api.Whole) (api.Whole, api.Whole, api.Errno) {
	if !allValid(a, b) {
		return api.Whole{}, api.Whole{}, api.ErrArg
	}
	if len(b.Limbs) == 0 {
		return api.Whole{}, api.Whole{}, ErrZero
	}
	q, r := divide(a.Limbs, b.Limbs)
	// divide rounds towards zero, the quotient is rounded down.
	if a.Neg != b.Neg && len(r) > 0 {
		q = add(q, limbsOf(1))
		r = subtract(b.Limbs, r)
	}
	return signed(a.Neg != b.Neg, q), signed(b.Neg, r), api.OK
}

// Gcd returns the greatest common divisor of a and b, or 0 if both are 0.
func Gcd(a, b api.Whole) (api.Whole, api.Errno) {
	return join(commonDivisor, a, b)
}

// Cmp compares a and b.
func Cmp(a, b api.Whole) int {
	if !allValid(a, b) {
		return 0
	}
	switch {
	case a.Neg && b.Neg:
		return compare(b.Limbs, a.Limbs)
	case a.Neg:
		return -1
	case b.Neg:
		return 1
	}
	return compare(a.Limbs, b.Limbs)
}

func allValid(numbers ...api.Whole) bool {
	for _, a := range numbers {
		if !Valid(a) {
			return false
		}
	}
	return true
}

// join joins valid numbers by an operation, from the first to the last. The operation's results may be longer than a valid number.
func join(operation func(a, b api.Whole) api.Whole, first api.Whole, others ...api.Whole) (api.Whole, api.Errno) {
	if !allValid(first) || !allValid(others...) {
		return api.Whole{}, api.ErrArg
	}
	result := first
	for _, other := range others {
		result = operation(result, other)
		if len(result.Limbs) > MaxWide {
			return api.Whole{}, api.ErrLong
		}
	}
	return result, api.OK
}

func sum(a, b api.Whole) api.Whole {
	if a.Neg == b.Neg {
		return signed(a.Neg, add(a.Limbs, b.Limbs))
	}
	if compare(a.Limbs, b.Limbs) < 0 {
		a, b = b, a
	}
	return signed(a.Neg, subtract(a.Limbs, b.Limbs))
}

func difference(a, b api.Whole) api.Whole {
	return sum(a, signed(!b.Neg, b.Limbs))
}

func product(a, b api.Whole) api.Whole {
	return signed(a.Neg != b.Neg, multiply(a.Limbs, b.Limbs))
}

func commonDivisor(a, b api.Whole) api.Whole {
	return signed(false, gcd(a.Limbs, b.Limbs))
}

// signed returns the number with these limbs, and the sign unless it is 0.
func signed(neg bool, limbs []uint16) api.Whole {
	return api.Whole{Neg: neg && len(limbs) > 0, Limbs: limbs}
}
