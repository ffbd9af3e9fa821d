package whole

import (
	"slices"
	"strings"

	"annuitant/api"
)

const (
	chunkDigits = 9             // decimal digits that are converted at once
	chunkUnit   = 1_000_000_000 // 10 to the power chunkDigits
	maxDigits   = 4933          // of the greatest valid number
)

// Text returns the decimal form of a.
func Text(a api.Whole) (string, api.Errno) {
	if !allValid(a) {
		return "", api.ErrArg
	}
	digits := digitsUpward(a.Limbs)
	if a.Neg {
		digits = append(digits, '-')
	}
	slices.Reverse(digits)
	return string(digits), api.OK
}

// Parse returns the number with a decimal form.
func Parse(text string) (api.Whole, api.Errno) {
	digits, neg := strings.CutPrefix(text, "-")
	if !decimal(digits) || neg && digits == "0" {
		return api.Whole{}, ErrText
	}
	if len(digits) > maxDigits {
		return api.Whole{}, api.ErrLong
	}
	limbs := limbsOfDigits(digits)
	if len(limbs) > MaxWide {
		return api.Whole{}, api.ErrLong
	}
	return signed(neg, limbs), api.OK
}

// digitsUpward returns the decimal digits, the least significant one first.
func digitsUpward(limbs []uint16) []byte {
	var digits []byte
	rest := slices.Clone(limbs)
	for len(rest) > 0 {
		chunk := divideShort(rest, chunkUnit)
		rest = trim(rest)
		for range chunkDigits {
			digits = append(digits, byte('0'+chunk%10))
			chunk /= 10
		}
	}
	for len(digits) > 0 && digits[len(digits)-1] == '0' {
		digits = digits[:len(digits)-1]
	}
	if len(digits) == 0 {
		return []byte{'0'}
	}
	return digits
}

// decimal reports whether the text consists of the digits of a decimal form.
func decimal(text string) bool {
	if text == "" || text[0] == '0' && text != "0" {
		return false
	}
	for i := range len(text) {
		if text[i] < '0' || text[i] > '9' {
			return false
		}
	}
	return true
}

// limbsOfDigits reads a first chunk, after which a number of whole chunks is left.
func limbsOfDigits(digits string) []uint16 {
	var limbs []uint16
	for len(digits) > 0 {
		n := (len(digits)-1)%chunkDigits + 1
		limbs = scale(limbs, chunkUnit, chunkOf(digits[:n]))
		digits = digits[n:]
	}
	return limbs
}

func chunkOf(digits string) int {
	chunk := 0
	for i := range len(digits) {
		chunk = chunk*10 + int(digits[i]-'0')
	}
	return chunk
}

// scale returns limbs * factor + extra.
func scale(limbs []uint16, factor, extra int) []uint16 {
	put, finish := collector(len(limbs) + wordLimbs)
	for _, limb := range limbs {
		put(int(limb)*factor + extra)
		extra = 0
	}
	put(extra)
	return finish()
}
