package timeline_test

import (
	"math"
	"math/big"
	"math/rand"
	"slices"
	"testing"

	"annuitant/api"
	"annuitant/frac"
	"annuitant/span"
	"annuitant/timeline"
)

func number(text string) api.Value {
	f, e := frac.Parse(text)
	if e != api.OK {
		panic(text)
	}
	return api.Value{Kind: api.Number, F: f}
}

func money(text string) api.Value {
	v := number(text)
	v.Kind = api.Money
	return v
}

func whole(kind uint8, i int) api.Value {
	return api.Value{Kind: kind, I: i}
}

func step(from, to int, v api.Value) api.Step {
	return api.Step{From: from, To: to, V: v}
}

// limbs returns so many limbs, of which the first is as given.
func limbs(count int, first uint16) []uint16 {
	l := slices.Repeat([]uint16{65535}, count)
	l[0] = first
	return l
}

// long returns the number of so many limbs 65535, without the first one, and a denominator.
func long(count int, negative bool, denominator []uint16) api.Value {
	return api.Value{Kind: api.Number, F: api.Frac{N: api.Whole{Neg: negative, Limbs: limbs(count, 65535)}, D: api.Whole{Limbs: denominator}}}
}

// kinds has some values of each kind, all of them different.
func kinds() [][]api.Value {
	return [][]api.Value{
		{whole(api.Truth, 0), whole(api.Truth, 1)},
		{number("0"), number("1/2"), number("-1/2"), number("1"), number("2"), number("1/3"), number("65536"), number("-4294967297/3")},
		{money("0"), money("1/2"), money("-100"), money("1"), money("2")},
		{whole(api.Date, 0), whole(api.Date, 1), whole(api.Date, api.MaxDay-1)},
		{whole(api.Days, 0), whole(api.Days, 1), whole(api.Days, -1), whole(api.Days, 1<<20), whole(api.Days, -1<<20)},
		{whole(api.Months, 0), whole(api.Months, 1), whole(api.Months, -1), whole(api.Months, 1<<20), whole(api.Months, -1<<20)},
	}
}

func extremes() []int {
	return []int{-1, -2, math.MinInt, api.MaxDay + 1, api.MaxDay + 2, math.MaxInt, 1 << 32, 1<<32 + 5, -1 << 32, math.MinInt + 5}
}

// broken returns fractions that are not valid.
func broken() []api.Frac {
	one, two := api.Whole{Limbs: []uint16{1}}, api.Whole{Limbs: []uint16{2}}
	return []api.Frac{
		{}, {N: one}, {D: two}, {N: two, D: two}, {N: one, D: api.Whole{Neg: true, Limbs: []uint16{1}}}, {N: api.Whole{Neg: true}, D: one},
		{N: one, D: api.Whole{Limbs: []uint16{1, 0}}}, {N: api.Whole{Limbs: []uint16{0}}, D: one}, {N: api.Whole{Limbs: limbs(257, 1)}, D: one}, {N: one, D: api.Whole{Limbs: limbs(257, 1)}},
	}
}

// noValues returns values that are not valid.
func noValues() []api.Value {
	var l []api.Value
	one := frac.FromInt(1)
	for _, f := range broken() {
		l = append(l, api.Value{Kind: api.Number, F: f}, api.Value{Kind: api.Money, F: f})
	}
	for _, i := range append(extremes(), 1, 7) {
		l = append(l, api.Value{Kind: api.Number, F: one, I: i}, api.Value{Kind: api.Money, F: one, I: i})
	}
	for _, kind := range []uint8{api.Truth, api.Date, api.Days, api.Months} {
		for _, f := range append(broken()[1:], one, frac.FromInt(0), api.Frac{N: api.Whole{Neg: true}}, api.Frac{D: api.Whole{Neg: true}}) {
			l = append(l, api.Value{Kind: kind, F: f})
		}
		for _, i := range []int{math.MinInt, math.MaxInt, 1<<20 + 1, -1<<20 - 1, 1 << 32, 1<<32 + 1, -1 << 32} {
			l = append(l, whole(kind, i))
		}
	}
	for _, kind := range []uint8{0, 7, 8, 128, 255} {
		l = append(l, whole(kind, 0), whole(kind, 1), api.Value{Kind: kind, F: one})
	}
	return append(l, whole(api.Truth, 2), whole(api.Truth, -1), whole(api.Date, -1), whole(api.Date, api.MaxDay))
}

// P5.1
func TestValid(t *testing.T) {
	for _, values := range kinds() {
		for _, v := range values {
			if !timeline.Valid(v) {
				t.Error(v, "is valid")
			}
		}
	}
	for _, v := range []api.Value{
		long(256, false, []uint16{1}), long(256, true, limbs(256, 65534)),
		{Kind: api.Truth, F: api.Frac{N: api.Whole{Limbs: []uint16{}}, D: api.Whole{Limbs: []uint16{}}}},
		{Kind: api.Number, F: api.Frac{N: api.Whole{Limbs: []uint16{}}, D: api.Whole{Limbs: []uint16{1}}}},
	} {
		if !timeline.Valid(v) {
			t.Error(v, "is valid")
		}
	}
	for _, v := range noValues() {
		if timeline.Valid(v) {
			t.Error(v, "is not valid")
		}
	}
}

// equal reports whether two values are the same, by the definition.
func equal(a, b api.Value) bool {
	return a.Kind == b.Kind && a.I == b.I && a.F.N.Neg == b.F.N.Neg && a.F.D.Neg == b.F.D.Neg && slices.Equal(a.F.N.Limbs, b.F.N.Limbs) && slices.Equal(a.F.D.Limbs, b.F.D.Limbs)
}

// P5.1
func TestSame(t *testing.T) {
	values := slices.Concat(append(kinds(), noValues())...)
	values = append(values, long(256, false, []uint16{1}), long(256, true, []uint16{1}), long(256, true, limbs(256, 65534)), api.Value{})
	for _, kind := range []uint8{api.Number, api.Truth, 0, 9} {
		for _, f := range []api.Frac{{N: api.Whole{Limbs: []uint16{}}}, {D: api.Whole{Limbs: []uint16{}}}, {N: api.Whole{Neg: true, Limbs: []uint16{}}}, {D: api.Whole{Neg: true, Limbs: []uint16{}}}} {
			values = append(values, api.Value{Kind: kind, F: f})
		}
	}
	for _, a := range values {
		for _, b := range values {
			if timeline.Same(a, b) != equal(a, b) {
				t.Error("Same", a, b)
			}
		}
	}
}

// none stands for a day without value.
var none = api.Value{}

// days has the value of each day, beginning with day 0.
type days []api.Value

func (l days) at(day int) api.Value {
	if day < 0 || day >= len(l) {
		return none
	}
	return l[day]
}

// line returns the timeline with these values.
func (l days) line() []api.Step {
	var steps []api.Step
	for day, v := range l {
		switch {
		case v.Kind == 0:
		case day > 0 && equal(v, l[day-1]):
			steps[len(steps)-1].To++
		default:
			steps = append(steps, step(day, day+1, v))
		}
	}
	return steps
}

// with returns the days with the value that choose chooses of those of l and m.
func (l days) with(m days, choose func(day int, v, w api.Value) api.Value) days {
	result := make(days, max(len(l), len(m)))
	for day := range result {
		result[day] = choose(day, l.at(day), m.at(day))
	}
	return result
}

// small returns the days whose values are the digits of n in base 3, beginning with the day first: none, or one of two values.
func small(n, count, first int, two []api.Value) days {
	l := make(days, first+count)
	for i := range count {
		if digit := n % 3; digit > 0 {
			l[first+i] = two[digit-1]
		}
		n /= 3
	}
	return l
}

// random returns days in runs of a length of up to longest.
func random(r *rand.Rand, longest int, values []api.Value) days {
	l := make(days, 0, api.MaxDay+longest)
	for len(l) < api.MaxDay {
		v := none
		if i := r.Intn(len(values) + 1); i > 0 {
			v = values[i-1]
		}
		for range 1 + r.Intn(longest) {
			l = append(l, v)
		}
	}
	return l[:api.MaxDay]
}

func equalLines(a, b []api.Step) bool {
	return slices.EqualFunc(a, b, func(s, t api.Step) bool { return s.From == t.From && s.To == t.To && equal(s.V, t.V) })
}

func expect(t *testing.T, name string, got []api.Step, e api.Errno, want []api.Step) {
	t.Helper()
	if e != api.OK || !equalLines(got, want) {
		t.Errorf("%s: %v, %d instead of %v", name, got, e, want)
	}
}

func expectError(t *testing.T, name string, got []api.Step, e api.Errno) {
	t.Helper()
	if e != api.ErrArg || len(got) != 0 {
		t.Errorf("%s: %v, %d instead of ErrArg", name, got, e)
	}
}

// P5.1: of all lists of up to three steps with ends of 0 to 4, those are timelines that are equal to the timeline of their days.
func TestRightOfSmallLists(t *testing.T) {
	var all []api.Step
	for from := range 5 {
		for to := from; to < 5; to++ {
			all = append(all, step(from, to, number("1/2")), step(from, to, number("0")))
		}
	}
	check := func(l ...api.Step) {
		in := make(days, 5)
		for _, s := range l {
			for day := s.From; day < s.To; day++ {
				in[day] = s.V
			}
		}
		if timeline.Right(l) != equalLines(l, in.line()) {
			t.Error("Right", l)
		}
	}
	check()
	for _, a := range all {
		check(a)
		for _, b := range all {
			check(a, b)
			for _, c := range all {
				check(a, b, c)
			}
		}
	}
}

// noTimelines returns slices of steps that are not timelines.
func noTimelines() [][]api.Step {
	x, y, other := number("1/2"), number("3"), money("3")
	l := [][]api.Step{
		{step(0, 10, x), step(10, 20, x)}, {step(0, 10, x), step(9, 20, y)}, {step(0, 10, x), step(2, 5, y)}, {step(10, 20, x), step(0, 10, y)}, {step(20, 30, x), step(0, 10, y)}, {step(0, 10, x), step(0, 10, x)},
		{step(0, 10, x), step(20, 30, other)}, {step(0, 10, y), step(10, 20, other)}, {step(0, 10, x), step(20, 30, y), step(40, 50, other)}, {step(0, 1, whole(api.Days, 1)), step(1, 2, whole(api.Months, 1))},
		{step(0, 10, x), step(10, 20, y), step(20, 30, y)}, {step(0, 10, x), step(10, 20, y), step(15, 30, x)},
	}
	var steps []api.Step
	for _, v := range noValues() {
		steps = append(steps, step(40, 50, v))
	}
	for _, day := range extremes() {
		steps = append(steps, step(40, day, x), step(day, 50, x), step(day, day, x), step(day, day+1, x))
	}
	steps = append(steps, step(40, 40, x), step(50, 40, x), step(41, 40, x), step(api.MaxDay, api.MaxDay, x), step(0, 0, x), step(api.MaxDay, 0, x))
	before, after := step(1, 3, y), step(70, 80, y)
	for _, s := range steps {
		l = append(l, []api.Step{s}, []api.Step{before, s}, []api.Step{s, after}, []api.Step{before, s, after})
	}
	return l
}

// P5.1
func TestRight(t *testing.T) {
	for _, values := range kinds() {
		x, y := values[0], values[1]
		for _, l := range [][]api.Step{nil, {}, {step(0, 1, x)}, {step(0, api.MaxDay, y)}, {step(api.MaxDay-1, api.MaxDay, x)}, {step(0, 10, x), step(10, 20, y)}, {step(0, 10, x), step(11, 20, x)}, {step(0, 5, x), step(5, 6, y), step(6, api.MaxDay, x)}} {
			if !timeline.Right(l) {
				t.Error(l, "is a timeline")
			}
		}
	}
	for _, l := range noTimelines() {
		if timeline.Right(l) {
			t.Error(l, "is not a timeline")
		}
	}
}

// P5.1 to P5.4
func TestSlicesThatAreNoTimelines(t *testing.T) {
	good := []api.Step{step(5, 9, number("1/3")), step(60, 61, number("2"))}
	for _, l := range noTimelines() {
		for _, day := range []int{0, 1, 2, 5, 15, 40, 45, 70} {
			if v, ok := timeline.At(l, day); ok || !equal(v, none) {
				t.Error("At", l, day, v, ok)
			}
		}
		got, e := timeline.Cut(l, 0, 20)
		expectError(t, "Cut", got, e)
		got, e = timeline.Cut(l, 3, 3)
		expectError(t, "Cut", got, e)
		got, e = timeline.Without(l, 2, 20)
		expectError(t, "Without", got, e)
		for _, other := range [][]api.Step{good, nil, l} {
			got, e = timeline.Join(l, other)
			expectError(t, "Join", got, e)
			got, e = timeline.Join(other, l)
			expectError(t, "Join", got, e)
			spans, e := timeline.Diff(l, other)
			spans2, e2 := timeline.Diff(other, l)
			if e != api.ErrArg || e2 != api.ErrArg || len(spans)+len(spans2) != 0 {
				t.Error("Diff", l, other, spans, e, spans2, e2)
			}
		}
		if f, e := timeline.Sum(l, 0, 1); e != api.ErrArg || !frac.Same(f, api.Frac{}) {
			t.Error("Sum", l, f, e)
		}
		if spans, changes := timeline.Covers(l), timeline.Changes(l); len(spans)+len(changes) != 0 {
			t.Error("Covers, Changes", l, spans, changes)
		}
	}
}

// P5.2
func TestSpansThatAreNotValid(t *testing.T) {
	l := []api.Step{step(5, 9, number("1/3")), step(60, 61, number("2"))}
	check := func(from, to int) {
		t.Helper()
		for _, l := range [][]api.Step{l, nil} {
			got, e := timeline.Cut(l, from, to)
			expectError(t, "Cut", got, e)
			got, e = timeline.Without(l, from, to)
			expectError(t, "Without", got, e)
			if f, e := timeline.Sum(l, from, to); e != api.ErrArg || !frac.Same(f, api.Frac{}) {
				t.Error("Sum", l, f, e)
			}
		}
	}
	for _, day := range extremes() {
		check(day, 10)
		check(10, day)
		check(day, day)
		check(0, day)
		check(day, api.MaxDay)
	}
	check(10, 9)
	check(1, 0)
	check(api.MaxDay, api.MaxDay-1)
	check(api.MaxDay, 0)
}

// firsts are the days with which small timelines begin.
var firsts = []int{0, 1, 1000, api.MaxDay - 6}

// checkOne compares the functions of one timeline with its days; at is a choice of days.
func checkOne(t *testing.T, l days, at []int) {
	t.Helper()
	line := l.line()
	if !timeline.Right(line) {
		t.Error("Right", line)
	}
	for _, day := range append(extremes(), at...) {
		v, ok := timeline.At(line, day)
		if want := l.at(day); ok != (want.Kind != 0) || !equal(v, want) {
			t.Error("At", line, day, v, ok)
		}
	}
	for _, from := range at {
		for _, to := range at {
			if from < 0 || from > to {
				continue
			}
			got, e := timeline.Cut(line, from, to)
			expect(t, "Cut", got, e, l.with(nil, func(day int, v, _ api.Value) api.Value { return only(v, day >= from && day < to) }).line())
			got, e = timeline.Without(line, from, to)
			expect(t, "Without", got, e, l.with(nil, func(day int, v, _ api.Value) api.Value { return only(v, day < from || day >= to) }).line())
		}
	}
	var covers []api.Span
	var changes []int
	for day := range len(l) + 1 {
		now, before := l.at(day), l.at(day-1)
		if !equal(now, before) {
			changes = append(changes, day)
		}
		if now.Kind != 0 && before.Kind == 0 {
			covers = append(covers, api.Span{From: day})
		}
		if now.Kind == 0 && before.Kind != 0 {
			covers[len(covers)-1].To = day
		}
	}
	if got := timeline.Covers(line); !slices.Equal(got, covers) {
		t.Error("Covers", line, got)
	}
	if got := timeline.Changes(line); !slices.Equal(got, changes) {
		t.Error("Changes", line, got)
	}
}

func only(v api.Value, wanted bool) api.Value {
	if wanted {
		return v
	}
	return none
}

// P5.1, P5.2, P5.4: all timelines of five neighbouring days with one of two values or none
func TestOneSmallTimeline(t *testing.T) {
	for _, first := range firsts[:2] {
		for n := range 243 {
			checkOne(t, small(n, 5, first, kinds()[1]), []int{0, 1, 2, 3, 4, 5, 6, 7})
		}
	}
	r := rand.New(rand.NewSource(50))
	for _, values := range kinds() {
		for _, first := range firsts[2:] {
			for range 3 {
				checkOne(t, small(r.Intn(729), 6, first, values), []int{first - 1, first, first + 2, first + 6})
			}
		}
	}
}

// P5.1, P5.2, P5.4
func TestOneLongTimeline(t *testing.T) {
	r := rand.New(rand.NewSource(51))
	for _, values := range kinds()[1:3] {
		for _, longest := range []int{1, 100, api.MaxDay} {
			at := []int{0, r.Intn(api.MaxDay), api.MaxDay - 1, api.MaxDay}
			checkOne(t, random(r, longest, values), at)
		}
	}
}

// P5.2: every day of a long timeline
func TestAt(t *testing.T) {
	r := rand.New(rand.NewSource(52))
	l := random(r, api.MaxDay/3, kinds()[1])
	line := l.line()
	for day := range api.MaxDay {
		if v, ok := timeline.At(line, day); ok != (l[day].Kind != 0) || !equal(v, l[day]) {
			t.Fatal(line, day, v, ok)
		}
	}
}

// checkTwo compares the functions of two timelines with their days.
func checkTwo(t *testing.T, l, m days) {
	t.Helper()
	a, b := l.line(), m.line()
	got, e := timeline.Join(a, b)
	expect(t, "Join", got, e, l.with(m, func(_ int, v, w api.Value) api.Value {
		if w.Kind != 0 {
			return w
		}
		return v
	}).line())
	differ := l.with(m, func(_ int, v, w api.Value) api.Value { return only(number("1"), !equal(v, w)) }).line()
	spans, e := timeline.Diff(a, b)
	same := slices.EqualFunc(spans, differ, func(s api.Span, d api.Step) bool { return s.From == d.From && s.To == d.To })
	if e != api.OK || !same {
		t.Error("Diff", a, b, spans, e)
	}
}

// P5.2, P5.4: all pairs of timelines of five neighbouring days with one of two values or none
func TestTwoSmallTimelines(t *testing.T) {
	values := kinds()[1]
	for n := range 243 {
		for m := range 243 {
			checkTwo(t, small(n, 5, 0, values), small(m, 5, 0, values))
		}
	}
	r := rand.New(rand.NewSource(53))
	for _, values := range kinds() {
		for _, first := range firsts {
			for range 5 {
				a, b := small(r.Intn(729), 6, first, values), small(r.Intn(729), 6, first, values[len(values)-2:])
				checkTwo(t, a, b)
				checkTwo(t, small(r.Intn(729), 6, 0, values), b)
				checkTwo(t, a, small(r.Intn(729), 6, 0, values))
			}
		}
	}
}

// P5.2, P5.4
func TestTwoLongTimelines(t *testing.T) {
	r := rand.New(rand.NewSource(54))
	for _, values := range kinds()[2:4] {
		for _, longest := range []int{1, 30, 5000, api.MaxDay} {
			a, b := random(r, longest, values), random(r, 1+r.Intn(longest), values)
			checkTwo(t, a, b)
			checkTwo(t, a, a)
			checkTwo(t, a, b[:r.Intn(api.MaxDay)])
		}
	}
}

// P5.2, P5.4
func TestTwoKinds(t *testing.T) {
	for i, left := range kinds() {
		for j, right := range kinds() {
			a, b := []api.Step{step(0, 10, left[1])}, []api.Step{step(20, 30, right[0]), step(30, 40, right[1])}
			for _, b := range [][]api.Step{b, {step(0, 10, right[1])}} {
				got, e := timeline.Join(a, b)
				if i != j {
					expectError(t, "Join", got, e)
				} else if e != api.OK {
					t.Error("Join", a, b, e)
				}
			}
			for _, empty := range [][]api.Step{nil, {}} {
				got, e := timeline.Join(empty, b)
				expect(t, "Join", got, e, b)
				got, e = timeline.Join(a, empty)
				expect(t, "Join", got, e, a)
			}
			spans, e := timeline.Diff(a, b)
			if e != api.OK || !slices.Equal(spans, []api.Span{{From: 0, To: 10}, {From: 20, To: 40}}) {
				t.Error("Diff", a, b, spans, e)
			}
			spans, e = timeline.Diff(a, []api.Step{step(5, 10, right[1])})
			want := api.Span{From: 0, To: 10}
			if i == j {
				want.To = 5
			}
			if e != api.OK || !slices.Equal(spans, []api.Span{want}) {
				t.Error("Diff", a, right, spans, e)
			}
		}
	}
}

func toInt(a api.Whole) *big.Int {
	x := new(big.Int)
	for _, limb := range slices.Backward(a.Limbs) {
		x.Lsh(x, 16).Add(x, big.NewInt(int64(limb)))
	}
	if a.Neg {
		x.Neg(x)
	}
	return x
}

func toRat(a api.Frac) *big.Rat {
	return new(big.Rat).SetFrac(toInt(a.N), toInt(a.D))
}

// checkSum compares a sum with that of the days.
func checkSum(t *testing.T, l days, line []api.Step, from, to int) {
	t.Helper()
	want := new(big.Rat)
	for day := from; day < to; day++ {
		if v := l.at(day); v.Kind != 0 {
			want.Add(want, toRat(v.F))
		}
	}
	got, e := timeline.Sum(line, from, to)
	if e != api.OK || !frac.Valid(got) || toRat(got).Cmp(want) != 0 {
		t.Error("Sum", line, from, to, got, e)
	}
}

// P5.3
func TestSum(t *testing.T) {
	r := rand.New(rand.NewSource(55))
	for _, values := range kinds()[1:3] {
		for n := range 729 {
			first := firsts[n%4]
			l := small(n, 6, first, values[n%3:])
			line := l.line()
			for from := range 7 {
				for to := from; to <= 6; to++ {
					checkSum(t, l, line, first+from, first+to)
				}
			}
			checkSum(t, l, line, first, api.MaxDay)
		}
		l := random(r, 2000, values)
		checkSum(t, l, l.line(), 0, api.MaxDay)
		checkSum(t, l, l.line(), 777, 44444)
	}
	for _, empty := range [][]api.Step{nil, {}} {
		checkSum(t, nil, empty, 0, api.MaxDay)
		checkSum(t, nil, empty, 5, 5)
	}
}

// P5.3
func TestSumOfOtherKinds(t *testing.T) {
	for i, values := range kinds() {
		line := []api.Step{step(10, 20, values[1])}
		for _, at := range [][2]int{{0, 30}, {10, 20}, {0, 10}, {15, 15}} {
			f, e := timeline.Sum(line, at[0], at[1])
			if i != 1 && i != 2 && (e != api.ErrArg || !frac.Same(f, api.Frac{})) {
				t.Error("Sum", line, f, e)
			}
			if (i == 1 || i == 2) && e != api.OK {
				t.Error("Sum", line, f, e)
			}
		}
	}
}

// P5.3
func TestSumThatIsTooLong(t *testing.T) {
	one, prime := []uint16{1}, []uint16{65521}
	greatest, least, parts := long(256, false, one), long(256, true, one), long(256, false, prime)
	tiny := api.Value{Kind: api.Number, F: api.Frac{N: api.Whole{Limbs: one}, D: api.Whole{Limbs: limbs(256, 65535)}}}
	for i, c := range []struct {
		from, to int
		ok       bool
		line     []api.Step
	}{
		{0, 9, true, []api.Step{step(0, 1, greatest)}},
		{0, 9, false, []api.Step{step(0, 2, greatest)}},
		{0, 1, true, []api.Step{step(0, 2, greatest)}},
		{2, 9, true, []api.Step{step(0, 2, greatest)}},
		{0, 9, false, []api.Step{step(0, 1, greatest), step(3, 4, number("1"))}},
		{0, 3, true, []api.Step{step(0, 1, greatest), step(3, 4, number("1"))}},
		{0, 9, true, []api.Step{step(0, 1, greatest), step(3, 4, number("0"))}},
		{0, 9, true, []api.Step{step(0, 1, greatest), step(3, 4, number("-1"))}},
		{0, 9, false, []api.Step{step(0, 1, greatest), step(3, 4, number("1")), step(5, 6, least)}},
		{0, 9, true, []api.Step{step(0, 1, greatest), step(3, 4, least), step(5, 6, number("1"))}},
		{0, 9, false, []api.Step{step(0, 1, greatest), step(3, 5, least)}},
		{0, 9, true, []api.Step{step(0, 9, tiny)}},
		{0, 9, true, []api.Step{step(0, 1, tiny), step(1, 2, number("-1"))}},
		{0, 9, false, []api.Step{step(0, 1, tiny), step(1, 2, number("1"))}},
		{0, 9, false, []api.Step{step(0, 1, tiny), step(1, 2, number("1/2"))}},
		{0, api.MaxDay, true, []api.Step{step(0, 65521, parts)}},
		{0, api.MaxDay, false, []api.Step{step(0, 65520, parts)}},
		{9, api.MaxDay, true, []api.Step{step(0, 65530, parts)}},
		{0, api.MaxDay, false, []api.Step{step(0, 65530, parts)}},
	} {
		f, e := timeline.Sum(c.line, c.from, c.to)
		if c.ok && (e != api.OK || !frac.Valid(f)) || !c.ok && (e != api.ErrLong || !frac.Same(f, api.Frac{})) {
			t.Error("Sum", i, e)
		}
	}
}

// P5.5
func TestConsequencesForTimelines(t *testing.T) {
	values := kinds()[1]
	join := func(a, b []api.Step) []api.Step { l, _ := timeline.Join(a, b); return l }
	check := func(a, b, c []api.Step, from, to int) {
		if !equalLines(join(join(a, b), c), join(a, join(b, c))) {
			t.Error("Join is not associative", a, b, c)
		}
		if !equalLines(join(a, a), a) {
			t.Error("Join", a, a)
		}
		in, _ := timeline.Cut(a, from, to)
		out, _ := timeline.Without(a, from, to)
		if !equalLines(join(in, out), a) || !equalLines(join(out, in), a) {
			t.Error("Cut, Without", a, from, to, in, out)
		}
		whole, e := timeline.Sum(a, 0, to)
		left, e1 := timeline.Sum(a, 0, from)
		right, e2 := timeline.Sum(a, from, to)
		sum, e3 := frac.Add(left, right)
		if e+e1+e2+e3 != api.OK || !frac.Same(whole, sum) {
			t.Error("Sum", a, from, to)
		}
		if spans, e := timeline.Diff(a, b); e != api.OK || (len(spans) == 0) != equalLines(a, b) {
			t.Error("Diff", a, b, spans, e)
		}
	}
	for n := range 27 * 27 * 27 {
		check(small(n%27, 3, 0, values).line(), small(n/27%27, 3, 0, values).line(), small(n/27/27, 3, 0, values).line(), n%4, n%4+n%3)
	}
	r := rand.New(rand.NewSource(56))
	for _, longest := range []int{200, 1000, api.MaxDay} {
		from := r.Intn(api.MaxDay)
		check(random(r, longest, values).line(), random(r, longest, values).line(), random(r, longest, values).line(), from, from+r.Intn(api.MaxDay-from))
	}
}

// memory collects where limbs are kept.
func memory(values ...api.Value) []*uint16 {
	var places []*uint16
	for _, v := range values {
		for _, l := range [][]uint16{v.F.N.Limbs, v.F.D.Limbs} {
			if cap(l) > 0 {
				places = append(places, &l[:1][0])
			}
		}
	}
	return places
}

func valuesOf(l []api.Step) []api.Value {
	var values []api.Value
	for _, s := range l {
		values = append(values, s.V)
	}
	return values
}

// R3
func TestArgumentsAndResultsShareNoMemory(t *testing.T) {
	functions := map[string]func(a, b []api.Step) []api.Step{
		"At": func(a, b []api.Step) []api.Step {
			v, _ := timeline.At(a, 5)
			w, _ := timeline.At(a, 5)
			return []api.Step{step(0, 0, v), step(0, 0, w)}
		},
		"Cut":     func(a, b []api.Step) []api.Step { l, _ := timeline.Cut(a, 5, 25); return l },
		"Without": func(a, b []api.Step) []api.Step { l, _ := timeline.Without(a, 5, 7); return l },
		"Join":    func(a, b []api.Step) []api.Step { l, _ := timeline.Join(a, b); return l },
		"Sum": func(a, b []api.Step) []api.Step {
			f, _ := timeline.Sum(a, 0, 1)
			g, _ := timeline.Sum(a, 0, 30)
			return []api.Step{step(0, 0, api.Value{F: f}), step(0, 0, api.Value{F: g})}
		},
		"others": func(a, b []api.Step) []api.Step {
			timeline.Diff(a, b)
			timeline.Right(a)
			clear(timeline.Covers(a))
			clear(timeline.Changes(a))
			timeline.Valid(a[0].V)
			timeline.Same(a[0].V, b[0].V)
			return nil
		},
	}
	lists := func() [][]api.Step {
		return [][]api.Step{
			{step(0, 10, number("1/2")), step(20, 30, number("5/7"))}, {step(3, 4, number("3")), step(4, 25, number("1/2"))}, {step(5, 7, number("1/2")), step(12, 21, number("5/7"))},
			{step(0, 10, money("100000/7"))}, {step(0, 10, number("1/2")), step(9, 30, number("5/7"))}, {step(0, 1, whole(api.Days, 7))},
		}
	}
	for name, f := range functions {
		for i := range lists() {
			for j := range lists() {
				a, b, fresh := lists()[i], lists()[j], lists()
				left, right := append(a, a...), append(b, b...)
				result := f(left[:len(a)], right[:len(b)])
				places := memory(append(append(valuesOf(left), valuesOf(right)...), valuesOf(result)...)...)
				given := len(memory(append(valuesOf(left), valuesOf(right)...)...))
				for at, place := range places {
					if at >= given && slices.Contains(places[:at], place) {
						t.Error(name, "shares limbs", a, b)
					}
				}
				clear(result[:cap(result)])
				if !equalLines(left, append(fresh[i], fresh[i]...)) || !equalLines(right, append(fresh[j], fresh[j]...)) {
					t.Error(name, "changes", a, b)
				}
			}
		}
	}
}

func TestExamples(t *testing.T) {
	half, one := number("1/2"), number("1")
	l := []api.Step{step(0, 10, half), step(10, 30, one)}
	if v, ok := timeline.At(l, 9); !ok || !equal(v, half) {
		t.Error(v, ok)
	}
	if v, ok := timeline.At(l, 30); ok || !equal(v, none) {
		t.Error(v, ok)
	}
	if f, e := timeline.Sum(l, 5, 20); e != api.OK || !frac.Same(f, number("25/2").F) {
		t.Error(f, e)
	}
	got, e := timeline.Cut(l, 5, 20)
	expect(t, "Cut", got, e, []api.Step{step(5, 10, half), step(10, 20, one)})
	got, e = timeline.Without(l, 5, 20)
	expect(t, "Without", got, e, []api.Step{step(0, 5, half), step(20, 30, one)})
	got, e = timeline.Join(l, []api.Step{step(8, 12, number("0"))})
	expect(t, "Join", got, e, []api.Step{step(0, 8, half), step(8, 12, number("0")), step(12, 30, one)})
	got, e = timeline.Join(l, []api.Step{step(10, 12, half)})
	expect(t, "Join", got, e, []api.Step{step(0, 12, half), step(12, 30, one)})
	if changes, covers := timeline.Changes(l), timeline.Covers(l); !slices.Equal(changes, []int{0, 10, 30}) || !slices.Equal(covers, []api.Span{{From: 0, To: 30}}) || !span.Valid(covers) {
		t.Error(changes, covers)
	}
	cut, _ := timeline.Cut(l, 0, 12)
	if spans, e := timeline.Diff(l, cut); e != api.OK || !slices.Equal(spans, []api.Span{{From: 12, To: 30}}) {
		t.Error(spans, e)
	}
}

// most returns a timeline with a step for each day.
func most() []api.Step {
	return slices.Repeat(days{number("1/2"), number("-3/7")}, api.MaxDay/2).line()
}

func BenchmarkAt(b *testing.B) {
	l := most()[:100]
	for b.Loop() {
		timeline.At(l, 50)
	}
}

func BenchmarkJoin(b *testing.B) {
	l := most()
	m := []api.Step{step(100, 200, number("2"))}
	for b.Loop() {
		timeline.Join(l, m)
	}
}

func BenchmarkSum(b *testing.B) {
	l := most()
	for b.Loop() {
		timeline.Sum(l, 0, api.MaxDay)
	}
}
