package whole

import (
	"math/bits"
	"slices"
)

// The functions of this file compute with absolute values: limbs without leading zeros. None of their results shares memory with an argument.

const (
	limbBits   = 16
	wordLimbs  = 64 / limbBits
	factorBits = 46 // bits of a factor by which limbs can be multiplied with carries in an int
)

// downward yields the limbs with their indices, from the most significant one on.
func downward(limbs []uint16) func(yield func(int, uint16) bool) {
	return func(yield func(int, uint16) bool) {
		for i := len(limbs) - 1; i >= 0; i-- {
			if !yield(i, limbs[i]) {
				return
			}
		}
	}
}

// trim cuts leading zeros off.
func trim(limbs []uint16) []uint16 {
	n := len(limbs)
	for n > 0 && limbs[n-1] == 0 {
		n--
	}
	return limbs[:n]
}

// compare returns -1, 0 or 1 if a is less than, equal to, or greater than b.
func compare(a, b []uint16) int {
	if len(a) != len(b) {
		if len(a) < len(b) {
			return -1
		}
		return 1
	}
	for i, limb := range downward(a) {
		if limb != b[i] {
			if limb < b[i] {
				return -1
			}
			return 1
		}
	}
	return 0
}

func limbsOf(n uint64) []uint16 {
	var limbs [wordLimbs]uint16
	for i := range limbs {
		limbs[i] = uint16(n >> (i * limbBits))
	}
	return trim(limbs[:])
}

// word returns the value of limbs if 64 bits are enough for it.
func word(limbs []uint16) (uint64, bool) {
	if len(limbs) > wordLimbs {
		return 0, false
	}
	n := uint64(0)
	for _, limb := range downward(limbs) {
		n = n<<limbBits | uint64(limb)
	}
	return n, true
}

// collector returns two functions: put takes the next digit, from the least significant one on, and finish returns the limbs of what was put. A digit may be negative, or exceed a limb: what a limb does not hold is carried to the next one. The whole that was put must not be negative.
func collector(room int) (put func(digit int), finish func() []uint16) {
	limbs := make([]uint16, 0, room)
	carry := 0
	put = func(digit int) {
		carry += digit
		limbs = append(limbs, uint16(carry))
		carry >>= limbBits
	}
	finish = func() []uint16 {
		for carry > 0 {
			put(0)
		}
		return trim(limbs)
	}
	return put, finish
}

// combine returns a * x + b * y, which must not be negative. x and y have at most factorBits bits, and different signs unless they are small, so that no digit with its carry exceeds an int.
func combine(a []uint16, x int, b []uint16, y int) []uint16 {
	n := max(len(a), len(b))
	put, finish := collector(n + wordLimbs)
	for i := range n {
		digit := 0
		if i < len(a) {
			digit = int(a[i]) * x
		}
		if i < len(b) {
			digit += int(b[i]) * y
		}
		put(digit)
	}
	return finish()
}

func add(a, b []uint16) []uint16 {
	return combine(a, 1, b, 1)
}

// subtract returns a - b; a is not less than b.
func subtract(a, b []uint16) []uint16 {
	return combine(a, 1, b, -1)
}

// multiply adds up each column of products before it carries, since MaxWide products of two limbs fit into an int.
func multiply(a, b []uint16) []uint16 {
	if len(a) == 0 || len(b) == 0 {
		return nil
	}
	put, finish := collector(len(a) + len(b))
	for k := range len(a) + len(b) - 1 {
		column := 0
		for i := max(0, k-len(b)+1); i <= min(k, len(a)-1); i++ {
			column += int(a[i]) * int(b[k-i])
		}
		put(column)
	}
	return finish()
}

// divide returns a / b, rounded towards zero, and the remainder; b is not 0.
func divide(a, b []uint16) (q, r []uint16) {
	if compare(a, b) < 0 {
		return nil, slices.Clone(a)
	}
	if len(b) == 1 {
		q = slices.Clone(a)
		rest := divideShort(q, int(b[0]))
		return trim(q), limbsOf(uint64(rest))
	}
	shift := bits.LeadingZeros16(b[len(b)-1])
	rest := shiftUp(a, shift)
	divisor := shiftUp(b, shift)[:len(b)]
	q = make([]uint16, len(rest)-len(divisor))
	for i := range downward(q) {
		q[i] = divideStep(rest[i:i+len(divisor)+1], divisor)
	}
	return trim(q), shiftDown(trim(rest), shift)
}

// divideShort divides limbs in place by a divisor of less than 2^32, and returns the remainder.
func divideShort(limbs []uint16, divisor int) int {
	rest := 0
	for i, limb := range downward(limbs) {
		rest = rest<<limbBits | int(limb)
		limbs[i] = uint16(rest / divisor)
		rest %= divisor
	}
	return rest
}

// divideStep returns the digit rest / divisor, and leaves the remainder in rest. The highest bit of the divisor is set, and rest has one limb more.
func divideStep(rest, divisor []uint16) uint16 {
	n := len(divisor)
	high := uint64(rest[n])<<32 | uint64(rest[n-1])<<16 | uint64(rest[n-2])
	digit := int(high / (uint64(divisor[n-1])<<16 | uint64(divisor[n-2])))
	// Three limbs by two give the digit, or one more than it.
	if takeTimes(rest, divisor, digit) {
		digit--
		giveBack(rest, divisor)
	}
	return uint16(digit)
}

// takeTimes subtracts digit * divisor from rest, and reports whether the result is negative; rest then lacks a borrow at its end.
func takeTimes(rest, divisor []uint16, digit int) bool {
	carry := 0
	for i, limb := range divisor {
		carry += int(rest[i]) - digit*int(limb)
		rest[i] = uint16(carry)
		carry >>= limbBits
	}
	carry += int(rest[len(divisor)])
	rest[len(divisor)] = uint16(carry)
	return carry < 0
}

// giveBack adds divisor to rest after a borrow; the last carry makes up for it.
func giveBack(rest, divisor []uint16) {
	carry := 0
	for i, limb := range divisor {
		carry += int(rest[i]) + int(limb)
		rest[i] = uint16(carry)
		carry >>= limbBits
	}
	rest[len(divisor)] += uint16(carry)
}

// shiftUp returns limbs shifted by less than a limb, with one limb more, which may be 0.
func shiftUp(limbs []uint16, shift int) []uint16 {
	result := make([]uint16, len(limbs)+1)
	for i, limb := range limbs {
		wide := uint32(limb) << shift
		result[i] |= uint16(wide)
		result[i+1] = uint16(wide >> limbBits)
	}
	return result
}

// shiftDown shifts limbs in place by less than a limb.
func shiftDown(limbs []uint16, shift int) []uint16 {
	above := uint32(0)
	for i, limb := range downward(limbs) {
		wide := above<<limbBits | uint32(limb)
		limbs[i] = uint16(wide >> shift)
		above = wide
	}
	return trim(limbs)
}
