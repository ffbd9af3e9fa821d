package span_test

import (
	"math"
	"math/rand"
	"slices"
	"testing"

	"annuitant/api"
	"annuitant/span"
)

// spans returns the spans with these ends, two for each.
func spans(ends ...int) []api.Span {
	var l []api.Span
	for pair := range slices.Chunk(ends, 2) {
		l = append(l, api.Span{From: pair[0], To: pair[1]})
	}
	return l
}

// days has for each day whether it is one of a set.
type days []bool

// mask returns the days whose bits are set, where bit 0 stands for the day first.
func mask(bits uint, first int) days {
	l := make(days, first+8)
	for i := range 8 {
		l[first+i] = bits>>i&1 == 1
	}
	return l
}

// random returns days in runs of a length of up to longest.
func random(r *rand.Rand, longest int) days {
	l := make(days, 0, api.MaxDay+longest)
	for in := r.Intn(2) == 1; len(l) < api.MaxDay; in = !in {
		for range 1 + r.Intn(longest) {
			l = append(l, in)
		}
	}
	return l[:api.MaxDay]
}

// set returns the set with these days.
func (l days) set() []api.Span {
	var result []api.Span
	for day, in := range l {
		switch {
		case !in:
		case day > 0 && l[day-1]:
			result[len(result)-1].To++
		default:
			result = append(result, api.Span{From: day, To: day + 1})
		}
	}
	return result
}

func (l days) has(day int) bool {
	return day >= 0 && day < len(l) && l[day]
}

func (l days) numbers() []int {
	var result []int
	for day, in := range l {
		if in {
			result = append(result, day)
		}
	}
	return result
}

// with returns the days of which wanted says so, knowing whether they are days of l and of m.
func (l days) with(m days, wanted func(a, b bool) bool) days {
	result := make(days, max(len(l), len(m)))
	for day := range result {
		result[day] = wanted(l.has(day), m.has(day))
	}
	return result
}

// bridged fills each run of at most most days between two days of l.
func (l days) bridged(most int) days {
	result := slices.Clone(l)
	numbers := l.numbers()
	for i := 1; i < len(numbers); i++ {
		if numbers[i]-numbers[i-1]-1 > most {
			continue
		}
		for day := numbers[i-1]; day < numbers[i]; day++ {
			result[day] = true
		}
	}
	return result
}

// firsts are the days with which small sets begin: the first ones, some of the middle, and the last ones.
var firsts = []int{0, 1, 1000, api.MaxDay - 8}

// noSets returns lists of spans that are not sets, although most have valid spans, or sets before and after the fault.
func noSets() [][]api.Span {
	l := [][]api.Span{
		spans(0, 10, 10, 20), spans(0, 10, 9, 20), spans(0, 10, 2, 5), spans(0, 10, 0, 10), spans(10, 20, 0, 5), spans(10, 20, 5, 10), spans(20, 30, 0, 10, 40, 50), spans(0, 10, 20, 30, 30, 31), spans(0, 5, 10, 15, 7, 9),
		spans(0, 0), spans(7, 7), spans(api.MaxDay, api.MaxDay), spans(0, 1, 5, 5, 8, 9), spans(5, 5, 8, 9), spans(1, 2, 5, 5),
	}
	for _, s := range noSpans() {
		l = append(l, []api.Span{s}, append(spans(1, 3), s), append([]api.Span{s}, spans(70, 80)...), append(append(spans(1, 3), s), spans(70, 80)...))
	}
	return l
}

// noSpans returns spans that are not valid.
func noSpans() []api.Span {
	return spans(-1, 5, -1, -1, -1, 0, -5, -3, 6, 5, 1, 0, 0, -1, 9, -9, 0, api.MaxDay+1, api.MaxDay, api.MaxDay+1, api.MaxDay+1, api.MaxDay+1, api.MaxDay+5, api.MaxDay+9, api.MaxDay, api.MaxDay-1,
		math.MinInt, math.MaxInt, math.MaxInt, math.MinInt, 5, math.MaxInt, 5, math.MinInt, math.MinInt, 5, math.MaxInt, 5, math.MinInt, math.MinInt, math.MaxInt, math.MaxInt, 1<<32, 1<<32+4, 5-1<<32, 9, 5, 9+1<<32)
}

func expect(t *testing.T, name string, got []api.Span, e api.Errno, want []api.Span) {
	t.Helper()
	if e != api.OK || !slices.Equal(got, want) {
		t.Errorf("%s: %v, %d instead of %v", name, got, e, want)
	}
}

func expectError(t *testing.T, name string, got []api.Span, e api.Errno) {
	t.Helper()
	if e != api.ErrArg || len(got) != 0 {
		t.Errorf("%s: %v, %d instead of ErrArg", name, got, e)
	}
}

// P4.1
func TestValid(t *testing.T) {
	for _, l := range [][]api.Span{nil, {}, spans(0, 1), spans(0, api.MaxDay), spans(api.MaxDay-1, api.MaxDay), spans(0, 10, 11, 20), spans(0, 1, 2, 3, 4, 5), spans(5, 8, 9, 10, 65000, api.MaxDay)} {
		if !span.Valid(l) {
			t.Error(l, "is a set")
		}
	}
	for _, l := range noSets() {
		if span.Valid(l) {
			t.Error(l, "is not a set")
		}
	}
}

// P4.1: of all lists of three spans with ends of 0 to 4, those are sets that are equal to the set of their days.
func TestValidAndMakeOfSmallSpans(t *testing.T) {
	var all []api.Span
	for from := range 5 {
		for to := from; to < 5; to++ {
			all = append(all, api.Span{From: from, To: to})
		}
	}
	for _, a := range all {
		for _, b := range all {
			for _, c := range all {
				for _, l := range [][]api.Span{{a}, {a, b}, {a, b, c}} {
					checkMake(t, l)
				}
			}
		}
	}
}

func checkMake(t *testing.T, l []api.Span) {
	t.Helper()
	var in days
	for _, s := range l {
		in = append(in, make(days, max(0, s.To-len(in)))...)
		for day := s.From; day < s.To; day++ {
			in[day] = true
		}
	}
	got, e := span.Make(l)
	expect(t, "Make", got, e, in.set())
	if !span.Valid(got) || span.Valid(l) != slices.Equal(l, in.set()) {
		t.Error("Valid", l, got)
	}
}

// P4.1
func TestMakeOfManySpans(t *testing.T) {
	r := rand.New(rand.NewSource(4))
	for _, longest := range []int{1, 2, 20, 5000, api.MaxDay} {
		for _, count := range []int{4, 5, 50, 500} {
			var l []api.Span
			for range count {
				from := r.Intn(api.MaxDay + 1)
				l = append(l, api.Span{From: from, To: min(from+r.Intn(longest+1), api.MaxDay)})
			}
			checkMake(t, l)
		}
	}
	for range 20 {
		l := random(r, 5).set()
		want := slices.Clone(l)
		r.Shuffle(len(l), func(i, j int) { l[i], l[j] = l[j], l[i] })
		got, e := span.Make(append(l, l...))
		expect(t, "Make", got, e, want)
	}
}

// P4.1
func TestMakeAtTheEnds(t *testing.T) {
	for _, c := range []struct{ l, want []api.Span }{
		{nil, nil}, {[]api.Span{}, nil}, {spans(0, 0), nil}, {spans(api.MaxDay, api.MaxDay, 0, 0, 3, 3), nil},
		{spans(0, api.MaxDay), spans(0, api.MaxDay)}, {spans(100, api.MaxDay, 0, 100), spans(0, api.MaxDay)}, {spans(100, api.MaxDay, 0, 99), spans(0, 99, 100, api.MaxDay)},
		{spans(0, 10, 2, 3, 5, 6), spans(0, 10)}, {spans(0, 10, 2, 3, 10, 12), spans(0, 12)}, {spans(0, 10, 10, 10, 11, 12), spans(0, 10, 11, 12)}, {spans(0, 5, 7, 9, 5, 7), spans(0, 9)},
		{spans(api.MaxDay-1, api.MaxDay, 0, 1), spans(0, 1, api.MaxDay-1, api.MaxDay)},
	} {
		got, e := span.Make(c.l)
		expect(t, "Make", got, e, c.want)
	}
}

// P4.1
func TestMakeOfNoSpans(t *testing.T) {
	for _, s := range noSpans() {
		for i := range 4 {
			got, e := span.Make(slices.Insert(spans(5, 9, 0, 3, 2, 2), i, s))
			expectError(t, "Make", got, e)
		}
		got, e := span.Make([]api.Span{s})
		expectError(t, "Make", got, e)
	}
}

// binary is a function of two sets, with what it is defined by.
type binary struct {
	join   func(a, b []api.Span) ([]api.Span, api.Errno)
	wanted func(a, b bool) bool
}

func binaries() map[string]binary {
	return map[string]binary{
		"Union": {span.Union, func(a, b bool) bool { return a || b }},
		"Meet":  {span.Meet, func(a, b bool) bool { return a && b }},
		"Minus": {span.Minus, func(a, b bool) bool { return a && !b }},
	}
}

func checkTwo(t *testing.T, a, b days) {
	t.Helper()
	for name, f := range binaries() {
		got, e := f.join(a.set(), b.set())
		expect(t, name, got, e, a.with(b, f.wanted).set())
	}
	within := true
	for day := range a {
		within = within && (!a[day] || b.has(day))
	}
	if span.Within(a.set(), b.set()) != within {
		t.Error("Within", a.set(), b.set(), !within)
	}
}

// P4.2, P4.3: all sets of eight neighbouring days
func TestTwoSmallSets(t *testing.T) {
	for bits := range uint(1 << 16) {
		checkTwo(t, mask(bits&255, 0), mask(bits>>8, 0))
	}
	r := rand.New(rand.NewSource(5))
	for _, first := range firsts {
		for range 40 {
			checkTwo(t, mask(uint(r.Intn(256)), first), mask(uint(r.Intn(256)), first))
			checkTwo(t, mask(uint(r.Intn(256)), 0), mask(uint(r.Intn(256)), first))
			checkTwo(t, mask(uint(r.Intn(256)), first), mask(uint(r.Intn(256)), 0))
		}
	}
}

// P4.2, P4.3
func TestTwoLongSets(t *testing.T) {
	r := rand.New(rand.NewSource(6))
	for _, longest := range []int{1, 3, 50, 4000, api.MaxDay} {
		for range 5 {
			a, b := random(r, longest), random(r, 1+r.Intn(longest))
			both := a.with(b, binaries()["Meet"].wanted)
			checkTwo(t, a, b)
			checkTwo(t, both, a)
			checkTwo(t, a, both)
			checkTwo(t, a, a)
		}
	}
}

// most returns the sets with the most spans: every second day, beginning with the day first.
func most(first int) days {
	l := make(days, api.MaxDay)
	for day := first; day < api.MaxDay; day += 2 {
		l[day] = true
	}
	return l
}

// P4.1 to P4.3
func TestMostSpans(t *testing.T) {
	even, odd, all := most(0).set(), most(1).set(), spans(0, api.MaxDay)
	if len(even) != 32768 || len(odd) != 32768 || !span.Valid(even) || !span.Valid(odd) {
		t.Error(len(even), len(odd))
	}
	got, e := span.Make(append(slices.Clone(odd), even...))
	expect(t, "Make", got, e, all)
	checkTwo(t, most(0), most(1))
	got, e = span.Union(even, odd)
	expect(t, "Union", got, e, all)
	got, e = span.Minus(all, even)
	expect(t, "Minus", got, e, odd)
	got, e = span.Bridge(even, 1)
	expect(t, "Bridge", got, e, spans(0, api.MaxDay-1))
	got, e = span.Bridge(odd, 0)
	expect(t, "Bridge", got, e, odd)
	if span.Days(even) != 32768 || span.Before(odd, 65535) != 32767 || span.Before(odd, 65536) != 32768 || span.Within(even, odd) || !span.Within(odd, all) {
		t.Error("counts of the longest sets")
	}
	if day, ok := span.Nth(odd, 32767); day != 65535 || !ok {
		t.Error(day, ok)
	}
}

// P4.2
func TestBridge(t *testing.T) {
	for bits := range uint(256) {
		for _, first := range firsts {
			l := mask(bits, first)
			for n := range 9 {
				got, e := span.Bridge(l.set(), n)
				expect(t, "Bridge", got, e, l.bridged(n).set())
			}
			got, e := span.Bridge(l.set(), math.MaxInt)
			expect(t, "Bridge", got, e, l.bridged(math.MaxInt).set())
		}
	}
	r := rand.New(rand.NewSource(7))
	for _, longest := range []int{2, 9, 300, 9000} {
		l := random(r, longest)
		for _, n := range []int{0, 1, longest / 2, longest - 1, longest, longest + 1, api.MaxDay, math.MaxInt} {
			got, e := span.Bridge(l.set(), n)
			expect(t, "Bridge", got, e, l.bridged(n).set())
		}
	}
	got, e := span.Bridge(spans(0, 1, api.MaxDay-1, api.MaxDay), api.MaxDay-3)
	expect(t, "Bridge", got, e, spans(0, 1, api.MaxDay-1, api.MaxDay))
	got, e = span.Bridge(spans(0, 1, api.MaxDay-1, api.MaxDay), api.MaxDay-2)
	expect(t, "Bridge", got, e, spans(0, api.MaxDay))
}

// P4.2
func TestBridgeOfNegativeDays(t *testing.T) {
	for _, l := range [][]api.Span{nil, spans(0, 10), spans(0, 10, 20, 30), spans(0, 10, 10, 20)} {
		for _, n := range []int{-1, -10, -api.MaxDay, math.MinInt, math.MinInt + 1} {
			got, e := span.Bridge(l, n)
			expectError(t, "Bridge", got, e)
		}
	}
}

// P4.2, P4.3: the functions of lists that are not sets
func TestNoSets(t *testing.T) {
	for _, bad := range noSets() {
		for _, good := range append(noSets(), nil, spans(0, 10), spans(0, api.MaxDay), spans(0, 10, 20, 30)) {
			for name, f := range binaries() {
				got, e := f.join(bad, good)
				expectError(t, name, got, e)
				got, e = f.join(good, bad)
				expectError(t, name, got, e)
			}
			if span.Within(bad, good) || span.Within(good, bad) {
				t.Error("Within", bad, good)
			}
		}
		for _, n := range append(extreme(), 0, 1, 2, 5, 7, 10, 70, 75, api.MaxDay) {
			got, e := span.Bridge(bad, n)
			expectError(t, "Bridge", got, e)
			if span.Has(bad, n) || span.Before(bad, n) != 0 {
				t.Error("Has or Before", bad, n)
			}
			if day, ok := span.Nth(bad, n); day != 0 || ok {
				t.Error("Nth", bad, n, day, ok)
			}
		}
		if n := span.Days(bad); n != 0 {
			t.Error("Days", bad, n)
		}
	}
}

// extreme returns numbers beyond all days.
func extreme() []int {
	return []int{math.MinInt, math.MinInt + 1, -1 << 32, -api.MaxDay, -1, api.MaxDay, api.MaxDay + 1, 1 << 32, math.MaxInt - 1, math.MaxInt}
}

// checkCounts compares Has, Days, Before and Nth with the days of a set, one by one.
func checkCounts(t *testing.T, l days) {
	t.Helper()
	set := l.set()
	n := 0
	for day := range len(l) + 2 {
		if span.Has(set, day) != l.has(day) || span.Before(set, day) != n {
			t.Fatal(set, day, span.Has(set, day), span.Before(set, day))
		}
		if !l.has(day) {
			continue
		}
		if got, ok := span.Nth(set, n); got != day || !ok {
			t.Fatal(set, day, got, ok)
		}
		n++
	}
	if span.Days(set) != n {
		t.Error(set, span.Days(set))
	}
	for _, i := range []int{n, n + 1, api.MaxDay, math.MaxInt, -1, -2, math.MinInt} {
		if day, ok := span.Nth(set, i); day != 0 || ok {
			t.Error(set, i, day, ok)
		}
	}
	for _, day := range extreme() {
		want := 0
		if day > 0 {
			want = n
		}
		if span.Has(set, day) || span.Before(set, day) != want {
			t.Error(set, day, span.Before(set, day))
		}
	}
}

// P4.3, P4.4
func TestCounts(t *testing.T) {
	for bits := range uint(256) {
		checkCounts(t, mask(bits, 0))
		checkCounts(t, mask(bits, 13))
	}
	r := rand.New(rand.NewSource(8))
	for _, longest := range []int{700, 9000, api.MaxDay} {
		checkCounts(t, random(r, longest))
	}
	checkCounts(t, make(days, api.MaxDay))
	checkCounts(t, slices.Repeat(days{true}, api.MaxDay))
}

// P4.3
func TestWithinTheEmptySet(t *testing.T) {
	some := spans(3, 5)
	if !span.Within(nil, nil) || !span.Within(nil, some) || !span.Within([]api.Span{}, some) || span.Within(some, nil) || span.Within(some, []api.Span{}) || !span.Within(some, some) {
		t.Error("Within and the empty set")
	}
}

// P4.4
func TestConsequences(t *testing.T) {
	union := func(a, b []api.Span) []api.Span { l, _ := span.Union(a, b); return l }
	meet := func(a, b []api.Span) []api.Span { l, _ := span.Meet(a, b); return l }
	check := func(a, b, c []api.Span) {
		for _, pair := range [][2][]api.Span{
			{union(a, b), union(b, a)}, {meet(a, b), meet(b, a)},
			{union(a, union(b, c)), union(union(a, b), c)}, {meet(a, meet(b, c)), meet(meet(a, b), c)},
			{union(a, meet(b, c)), meet(union(a, b), union(a, c))}, {meet(a, union(b, c)), union(meet(a, b), meet(a, c))},
		} {
			if !slices.Equal(pair[0], pair[1]) {
				t.Error(a, b, c, pair)
			}
		}
		if span.Days(union(a, b))+span.Days(meet(a, b)) != span.Days(a)+span.Days(b) {
			t.Error(a, b)
		}
	}
	for bits := range uint(1 << 15) {
		check(mask(bits&31, 0).set(), mask(bits>>5&31, 0).set(), mask(bits>>10, 0).set())
	}
	r := rand.New(rand.NewSource(9))
	for _, longest := range []int{1, 5, 100, 10000} {
		check(random(r, longest).set(), random(r, longest).set(), random(r, longest).set())
	}
}

// R3
func TestArgumentsAndResultsShareNoMemory(t *testing.T) {
	functions := map[string]func(a, b []api.Span) []api.Span{
		"Make":   func(a, b []api.Span) []api.Span { l, _ := span.Make(a); return l },
		"Union":  func(a, b []api.Span) []api.Span { l, _ := span.Union(a, b); return l },
		"Meet":   func(a, b []api.Span) []api.Span { l, _ := span.Meet(a, b); return l },
		"Minus":  func(a, b []api.Span) []api.Span { l, _ := span.Minus(a, b); return l },
		"Bridge": func(a, b []api.Span) []api.Span { l, _ := span.Bridge(a, 10); return l },
		"others": func(a, b []api.Span) []api.Span {
			span.Valid(a)
			span.Within(a, b)
			span.Nth(a, span.Days(b)+span.Before(a, 25))
			span.Has(b, 3)
			return nil
		},
	}
	lists := [][]api.Span{nil, spans(0, 10, 20, 30), spans(5, 25), spans(40, 50, 20, 30, 25, 26, 7, 7, 0, 20), spans(0, 10, 100, 110), spans(9, 3)}
	for name, f := range functions {
		for _, a := range lists {
			for _, b := range lists {
				left, right := append(slices.Clone(a), spans(1, 2, 3, 4)...), append(slices.Clone(b), spans(5, 6, 7, 8)...)
				leftWas, rightWas := slices.Clone(left), slices.Clone(right)
				result := f(left[:len(a)], right[:len(b)])
				result = result[:cap(result)]
				for i := range result {
					result[i] = api.Span{From: -7, To: -9}
				}
				if !slices.Equal(left, leftWas) || !slices.Equal(right, rightWas) {
					t.Error(name, a, b)
				}
			}
		}
	}
}

func TestExamples(t *testing.T) {
	a, b := spans(0, 10, 20, 30), spans(5, 25)
	got, e := span.Union(a, b)
	expect(t, "Union", got, e, spans(0, 30))
	got, e = span.Meet(a, b)
	expect(t, "Meet", got, e, spans(5, 10, 20, 25))
	got, e = span.Minus(a, b)
	expect(t, "Minus", got, e, spans(0, 5, 25, 30))
	got, e = span.Bridge(a, 10)
	expect(t, "Bridge", got, e, spans(0, 30))
	got, e = span.Bridge(a, 9)
	expect(t, "Bridge", got, e, a)
	got, e = span.Make(spans(5, 8, 3, 5, 9, 9))
	expect(t, "Make", got, e, spans(3, 8))
	if span.Days(a) != 20 || span.Before(a, 25) != 15 || span.Valid(spans(0, 10, 10, 20)) {
		t.Error(span.Days(a), span.Before(a, 25))
	}
	if day, ok := span.Nth(a, 10); day != 20 || !ok {
		t.Error(day, ok)
	}
	if day, ok := span.Nth(a, 20); day != 0 || ok {
		t.Error(day, ok)
	}
}

func BenchmarkUnion(b *testing.B) {
	even, odd := most(0).set(), most(1).set()
	for b.Loop() {
		span.Union(even, odd)
	}
}

func BenchmarkUnionOfShortSets(b *testing.B) {
	short, other := spans(0, 10, 20, 30), spans(5, 25)
	for b.Loop() {
		span.Union(short, other)
	}
}

func BenchmarkMake(b *testing.B) {
	r := rand.New(rand.NewSource(10))
	l := most(0).set()
	r.Shuffle(len(l), func(i, j int) { l[i], l[j] = l[j], l[i] })
	for b.Loop() {
		span.Make(l)
	}
}

func BenchmarkBefore(b *testing.B) {
	l := most(0).set()
	for b.Loop() {
		span.Before(l, 50000)
	}
}
