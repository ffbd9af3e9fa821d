package timeline

import (
	"slices"

	"annuitant/api"
)

// farthest is the greatest number of days or months of a value, back or forth.
const farthest = 1 << 20

// isFraction reports whether a value is of a kind that uses F.
func isFraction(v api.Value) bool {
	return v.Kind == api.Number || v.Kind == api.Money
}

// limits returns the least and the greatest I of a kind that uses I, and whether kind is one.
func limits(kind uint8) (int, int, bool) {
	switch kind {
	case api.Truth:
		return 0, 1, true
	case api.Date:
		return 0, api.MaxDay - 1, true
	case api.Days, api.Months:
		return -farthest, farthest, true
	}
	return 0, 0, false
}

// copied returns v in memory of its own.
func copied(v api.Value) api.Value {
	v.F.N.Limbs = slices.Clone(v.F.N.Limbs)
	v.F.D.Limbs = slices.Clone(v.F.D.Limbs)
	return v
}
