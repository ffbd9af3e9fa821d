package frac

import (
	"annuitant/api"
	"annuitant/whole"
)

// The functions of this file compute with valid whole numbers. Package frac multiplies at most three numbers of MaxLimbs limbs, and whole.MaxWide leaves room for that: so package whole returns no error. The results share no memory with arguments.

// sure drops the code OK.
func sure(a api.Whole, _ api.Errno) api.Whole {
	return a
}

func sum(a, b api.Whole) api.Whole {
	return sure(whole.Add(a, b))
}

func negative(a api.Whole) api.Whole {
	return sure(whole.Sub(api.Whole{}, a))
}

func product(a, b api.Whole) api.Whole {
	return sure(whole.Mul(a, b))
}

// quotient returns a / b, rounded down; b is not 0.
func quotient(a, b api.Whole) api.Whole {
	q, _, _ := whole.DivMod(a, b)
	return q
}

// divisor returns the greatest common divisor of a and b.
func divisor(a, b api.Whole) api.Whole {
	return sure(whole.Gcd(a, b))
}

func isZero(a api.Whole) bool {
	return len(a.Limbs) == 0
}

func isOne(a api.Whole) bool {
	return !a.Neg && len(a.Limbs) == 1 && a.Limbs[0] == 1
}

func isOdd(a api.Whole) bool {
	return len(a.Limbs) > 0 && a.Limbs[0]%2 == 1
}

// isLong reports whether a is too long for a numerator or a denominator.
func isLong(a api.Whole) bool {
	return len(a.Limbs) > api.MaxLimbs
}
