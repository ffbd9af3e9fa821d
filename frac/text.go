package frac

import (
	"strings"

	"annuitant/api"
	"annuitant/whole"
)

const slash = "/"

// Text returns the text of a.
func Text(a api.Frac) (string, api.Errno) {
	if !Valid(a) {
		return "", api.ErrArg
	}
	text, _ := whole.Text(a.N)
	if !isOne(a.D) {
		below, _ := whole.Text(a.D)
		text += slash + below
	}
	return text, api.OK
}

// Parse returns the fraction with a text.
func Parse(text string) (api.Frac, api.Errno) {
	above, below, two := strings.Cut(text, slash)
	if !two {
		below = "1"
	}
	n, wrongAbove := whole.Parse(above)
	d, wrongBelow := whole.Parse(below)
	if wrongAbove == whole.ErrText || wrongBelow == whole.ErrText || two && !atLeastTwo(below) {
		return api.Frac{}, ErrText
	}
	f := fractionOf(n, d)
	if wrongAbove != api.OK || wrongBelow != api.OK || f.long() {
		return api.Frac{}, api.ErrLong
	}
	if !f.valid() {
		return api.Frac{}, ErrText
	}
	return f.Frac, api.OK
}

// atLeastTwo looks at the decimal form only, since the number may be too long.
func atLeastTwo(decimal string) bool {
	return decimal != "0" && decimal != "1" && !strings.HasPrefix(decimal, "-")
}
