package span

import (
	"iter"

	"annuitant/api"
)

// never is greater than all days at which membership changes.
const never = api.MaxDay + 1

// membership says of which of two sets a day is.
type membership struct{ a, b bool }

func (in membership) onlyA() bool {
	return in.a && !in.b
}

// border is a place among the days at which membership in a set changes: the From and the To of each span, in order.
type border struct {
	set    []api.Span
	passed int
}

// day returns the next day at which membership changes, or never.
func (b border) day() int {
	i := b.passed / 2
	switch {
	case i == len(b.set):
		return never
	case b.inside():
		return b.set[i].To
	}
	return b.set[i].From
}

// inside reports whether the days up to the next change are days of the set.
func (b border) inside() bool {
	return b.passed%2 == 1
}

// pass goes on if the next change is at a day.
func (b *border) pass(day int) {
	if b.day() == day {
		b.passed++
	}
}

// changes yields the days at which membership in one of two sets changes, in order, each with the membership from this day on.
func changes(a, b []api.Span) iter.Seq2[int, membership] {
	return func(yield func(int, membership) bool) {
		left, right := border{set: a}, border{set: b}
		for {
			day := min(left.day(), right.day())
			if day == never {
				return
			}
			left.pass(day)
			right.pass(day)
			if !yield(day, membership{a: left.inside(), b: right.inside()}) {
				return
			}
		}
	}
}

// combine returns the set of the days whose membership in a and b is wanted.
func combine(a, b []api.Span, wanted func(membership) bool) ([]api.Span, api.Errno) {
	if !Valid(a) || !Valid(b) {
		return nil, api.ErrArg
	}
	var l []api.Span
	inside := false
	for day, in := range changes(a, b) {
		if wanted(in) == inside {
			continue
		}
		if inside {
			l[len(l)-1].To = day
		} else {
			l = append(l, api.Span{From: day})
		}
		inside = !inside
	}
	return l, api.OK
}
