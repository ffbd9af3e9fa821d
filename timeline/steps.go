package timeline

import (
	"sort"

	"annuitant/api"
)

// isSpan reports whether from and to are the ends of a span, which may be empty.
func isSpan(from, to int) bool {
	return from >= 0 && from <= to && to <= api.MaxDay
}

// isStep reports whether s can be a step of a timeline.
func isStep(s api.Step) bool {
	return isSpan(s.From, s.To) && s.From < s.To && Valid(s.V)
}

// follows reports whether s can be the step after last in a timeline; both can be steps of one.
func follows(s, last api.Step) bool {
	if s.V.Kind != last.V.Kind || s.From < last.To {
		return false
	}
	return !continues(s, last)
}

// continues reports whether s goes on with the value of last where last ends.
func continues(s, last api.Step) bool {
	return s.From == last.To && Same(s.V, last.V)
}

// kind returns the kind of the values of a timeline that is not empty.
func kind(l []api.Step) uint8 {
	return l[0].V.Kind
}

// find returns the index of the first step of a timeline that ends after a day, or the number of its steps.
func find(l []api.Step, day int) int {
	return sort.Search(len(l), func(i int) bool { return l[i].To > day })
}

// within returns the pieces of the steps of a timeline that lie within a span.
func within(l []api.Step, from, to int) []api.Step {
	var pieces []api.Step
	for _, s := range l[find(l, from):] {
		s.From, s.To = max(s.From, from), min(s.To, to)
		if s.From >= s.To {
			break
		}
		pieces = append(pieces, s)
	}
	return pieces
}

// collect returns, in memory of its own, the timeline of pieces that are in order, without those that have no value.
func collect(pieces ...api.Step) []api.Step {
	var l []api.Step
	for _, p := range pieces {
		last := len(l) - 1
		switch {
		case p.V.Kind == none:
		case last >= 0 && continues(p, l[last]):
			l[last].To = p.To
		default:
			p.V = copied(p.V)
			l = append(l, p)
		}
	}
	return l
}
