package frac

import (
	"math/bits"
	"slices"

	"annuitant/api"
	"annuitant/whole"
)

// fraction gives its numerator N and its denominator D. Its methods expect it to be valid, unless they say otherwise; the fractions that they return are in lowest terms, but may be too long, and share no memory with it, except for that of reciprocal.
type fraction struct{ api.Frac }

// valid takes any fraction.
func (f fraction) valid() bool {
	if !whole.Valid(f.N) || !whole.Valid(f.D) || f.long() {
		return false
	}
	if f.D.Neg || isZero(f.D) {
		return false
	}
	return isOne(f.D) || isOne(divisor(f.N, f.D))
}

// long takes any fraction, and reports whether it is too long.
func (f fraction) long() bool {
	return isLong(f.N) || isLong(f.D)
}

// result takes a fraction in lowest terms, and returns it with OK unless it is too long.
func (f fraction) result() (api.Frac, api.Errno) {
	if f.long() {
		return api.Frac{}, api.ErrLong
	}
	return f.Frac, api.OK
}

// negative reports whether f is less than 0.
func (f fraction) negative() bool {
	return f.N.Neg
}

func (f fraction) opposite() fraction {
	return fractionOf(negative(f.N), api.Whole{Limbs: slices.Clone(f.D.Limbs)})
}

// reciprocal returns 1 / f; f is not 0.
func (f fraction) reciprocal() fraction {
	if f.negative() {
		return fractionOf(negative(f.D), negative(f.N))
	}
	return fractionOf(f.D, f.N)
}

// plus cancels before it multiplies as far as it can: the sum of two fractions in lowest terms can be divided only by divisors that their denominators have in common.
func (f fraction) plus(g fraction) fraction {
	common := divisor(f.D, g.D)
	left, right := quotient(f.D, common), quotient(g.D, common)
	n := sum(product(f.N, right), product(g.N, left))
	rest := divisor(n, common)
	return fractionOf(quotient(n, rest), product(left, quotient(g.D, rest)))
}

func (f fraction) minus(g fraction) fraction {
	return f.plus(g.opposite())
}

// times cancels before it multiplies: only a numerator and the other one's denominator have common divisors.
func (f fraction) times(g fraction) fraction {
	left, right := divisor(f.N, g.D), divisor(g.N, f.D)
	n := product(quotient(f.N, left), quotient(g.N, right))
	return fractionOf(n, product(quotient(f.D, right), quotient(g.D, left)))
}

// power stops as soon as a power is too long, since all later ones are longer still.
func (f fraction) power(n uint64) fraction {
	result := fraction{FromInt(1)}
	for i := bits.Len64(n) - 1; i >= 0 && !result.long(); i-- {
		result = result.timesPower(result)
		if n>>i&1 == 1 {
			result = result.timesPower(f)
		}
	}
	return result
}

// timesPower multiplies two powers of one fraction, where nothing can be cancelled.
func (f fraction) timesPower(g fraction) fraction {
	return fractionOf(product(f.N, g.N), product(f.D, g.D))
}

// floor returns the greatest whole number that is at most f.
func (f fraction) floor() api.Whole {
	return quotient(f.N, f.D)
}

func fractionOf(n, d api.Whole) fraction {
	return fraction{api.Frac{N: n, D: d}}
}

// reduced returns n / d in lowest terms; d is not 0. It shares no memory with n and d.
func reduced(n, d api.Whole) fraction {
	common := divisor(n, d)
	if d.Neg {
		common = negative(common)
	}
	return fractionOf(quotient(n, common), quotient(d, common))
}

// distance returns the absolute value of n, also that of -2^63, which no int has.
func distance(n int) uint64 {
	if n < 0 {
		return -uint64(n)
	}
	return uint64(n)
}
