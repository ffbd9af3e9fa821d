package calendar

import (
	"annuitant/api"
)

const separator = '-'

// text is the text of a date.
type text [10]byte

// fields has the places of the year, the month and the day of the month in a text; each is followed by a separator, except the last one.
var fields = [3]struct{ from, to int }{{0, 4}, {5, 7}, {8, 10}}

// Text returns a date as text, which is empty if day is not a date.
func Text(day int) string {
	year, month, d, e := YMD(day)
	if e != api.OK {
		return ""
	}
	var t text
	for i, n := range [len(fields)]int{year, month, d} {
		t = t.with(i, n)
	}
	return string(t[:])
}

// with returns the text with a number in a field, and the separator behind it.
func (t text) with(field, n int) text {
	place := fields[field]
	for i := place.to - 1; i >= place.from; i-- {
		t[i] = byte('0' + n%10)
		n /= 10
	}
	if place.to < len(t) {
		t[place.to] = separator
	}
	return t
}

// Parse returns the date with a text.
func Parse(s string) (int, api.Errno) {
	var year, month, d int
	if len(s) != len(text{}) || !text([]byte(s)).read(&year, &month, &d) {
		return 0, api.ErrArg
	}
	return Day(year, month, d)
}

// read reads the numbers of the fields into parts, and reports whether the text has the form of a date.
func (t text) read(parts ...*int) bool {
	for field, part := range parts {
		place := fields[field]
		for _, c := range t[place.from:place.to] {
			if c < '0' || c > '9' {
				return false
			}
			*part = *part*10 + int(c-'0')
		}
		if place.to < len(t) && t[place.to] != separator {
			return false
		}
	}
	return true
}
