package span

import (
	"slices"
	"sort"

	"annuitant/api"
)

// isSpan reports whether s is valid; it may be empty.
func isSpan(s api.Span) bool {
	return s.From >= 0 && s.From <= s.To && s.To <= api.MaxDay
}

func isEmpty(s api.Span) bool {
	return s.From == s.To
}

// length returns the number of days of a valid span.
func length(s api.Span) int {
	return s.To - s.From
}

// count returns the number of days of a set.
func count(l []api.Span) int {
	n := 0
	for _, s := range l {
		n += length(s)
	}
	return n
}

// ordered returns the valid spans of l that are not empty, ordered by From.
func ordered(l []api.Span) []api.Span {
	result := slices.DeleteFunc(slices.Clone(l), isEmpty)
	slices.SortFunc(result, func(s, t api.Span) int { return s.From - t.From })
	return result
}

// merge returns the set of the days of valid spans that are not empty and ordered by From, together with the gaps of at most days days.
func merge(l []api.Span, days int) []api.Span {
	var result []api.Span
	for _, s := range l {
		last := len(result) - 1
		if last < 0 || s.From-result[last].To > days {
			result = append(result, s)
		} else {
			result[last].To = max(result[last].To, s.To)
		}
	}
	return result
}

// find returns the index of the first span of a set that ends after a day, or the number of its spans.
func find(l []api.Span, day int) int {
	return sort.Search(len(l), func(i int) bool { return l[i].To > day })
}
