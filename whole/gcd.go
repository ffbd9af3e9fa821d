package whole

import (
	"math/bits"
	"slices"
)

// gcd returns the greatest common divisor. Long numbers are reduced by Lehmer's method: several steps of Euclid's algorithm are found from the leading bits alone, and are applied to all limbs at once.
func gcd(a, b []uint16) []uint16 {
	if compare(a, b) < 0 {
		a, b = b, a
	}
	for len(b) > 0 {
		if len(a) <= wordLimbs {
			return limbsOf(gcdWords(a, b))
		}
		s := leadingSteps(leading(a, b))
		if s.b == 0 {
			_, rest := divide(a, b)
			a, b = b, rest
			continue
		}
		a, b = combine(a, s.a, b, s.b), combine(a, s.c, b, s.d)
	}
	return slices.Clone(a)
}

func gcdWords(long, short []uint16) uint64 {
	a, _ := word(long)
	b, _ := word(short)
	for b != 0 {
		a, b = b, a%b
	}
	return a
}

// leading returns the leading bits of a, at most factorBits of them, and the bits of b at the same places. a is not less than b, and has at least wordLimbs limbs.
func leading(a, b []uint16) (x, y int) {
	low := len(a) - wordLimbs
	high, _ := word(a[low:])
	same, _ := word(b[min(low, len(b)):])
	shift := max(0, bits.Len64(high)-factorBits)
	return int(high >> shift), int(same >> shift)
}

// steps of Euclid's algorithm lead from two numbers x, y to a*x + b*y, c*x + d*y.
type steps struct{ a, b, c, d int }

// leadingSteps returns the steps that x, y have in common with all longer numbers that begin with their bits (Knuth, algorithm L): both bounds of a quotient agree. If there are none, b of the result is 0. The factors never exceed x.
func leadingSteps(x, y int) steps {
	s := steps{a: 1, d: 1}
	for y+s.c != 0 && y+s.d != 0 {
		q := (x + s.a) / (y + s.c)
		if q != (x+s.b)/(y+s.d) {
			break
		}
		s = steps{s.c, s.d, s.a - q*s.c, s.b - q*s.d}
		x, y = y, x-q*y
	}
	return s
}
