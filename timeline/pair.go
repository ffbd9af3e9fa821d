package timeline

import (
	"iter"

	"annuitant/api"
)

// none is the kind of the zero value, which stands for no value: it is the kind of no valid one.
const none uint8 = 0

// pair has the values of two timelines on the same days.
type pair struct{ a, b api.Value }

// joined returns the value of b, or that of a if b has none.
func (p pair) joined() api.Value {
	if p.b.Kind == none {
		return p.a
	}
	return p.b
}

func (p pair) differ() bool {
	return !Same(p.a, p.b)
}

// current returns the value of a day, and the day up to which it stays the same; no step of l has ended before.
func current(l []api.Step, day int) (api.Value, int) {
	switch {
	case len(l) == 0:
		return api.Value{}, api.MaxDay
	case l[0].From > day:
		return api.Value{}, l[0].From
	}
	return l[0].V, l[0].To
}

// pending returns l without its first step if this one ends with a day.
func pending(l []api.Step, day int) []api.Step {
	if len(l) > 0 && l[0].To == day {
		return l[1:]
	}
	return l
}

// stretches yields, in order, the spans during which the values of two timelines stay the same, with these values. It ends with the last step.
func stretches(a, b []api.Step) iter.Seq2[api.Span, pair] {
	return func(yield func(api.Span, pair) bool) {
		left, right := a, b
		for day := 0; len(left) > 0 || len(right) > 0; {
			v, leftEnd := current(left, day)
			w, rightEnd := current(right, day)
			end := min(leftEnd, rightEnd)
			if !yield(api.Span{From: day, To: end}, pair{a: v, b: w}) {
				return
			}
			day = end
			left, right = pending(left, day), pending(right, day)
		}
	}
}
