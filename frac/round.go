package frac

import (
	"annuitant/api"
	"annuitant/whole"
)

// place is a fraction among the multiples of a unit: it is at least below * unit and less than (below + 1) * unit.
type place struct {
	fraction
	below api.Whole
	exact bool // below * unit is the fraction
	half  int  // -1, 0 or 1 if the fraction is below, at, or above the middle of both multiples
}

// locate finds f among the multiples of a positive unit. It does so with whole numbers, since f / unit may be too long although the multiples are not.
func locate(f, unit fraction) place {
	n, d := product(f.N, unit.D), product(f.D, unit.N)
	below, rest, _ := whole.DivMod(n, d)
	return place{fraction: f, below: below, exact: isZero(rest), half: whole.Cmp(sum(rest, rest), d)}
}

// modes has for each mode of rounding whether it chooses the multiple above the fraction.
func (p place) modes() [api.RoundEven + 1]func() bool {
	return [...]func() bool{
		api.RoundDown:  func() bool { return p.negative() && !p.exact },
		api.RoundUp:    func() bool { return !p.negative() && !p.exact },
		api.RoundFloor: func() bool { return false },
		api.RoundCeil:  func() bool { return !p.exact },
		api.RoundHalf:  func() bool { return p.half > 0 || p.half == 0 && !p.negative() },
		api.RoundEven:  func() bool { return p.half > 0 || p.half == 0 && isOdd(p.below) },
	}
}

// factor returns the factor of the unit that a mode from RoundDown to RoundEven chooses.
func (p place) factor(mode uint8) api.Whole {
	above := p.modes()[mode]
	if above() {
		return sum(p.below, whole.FromInt(1))
	}
	return p.below
}
