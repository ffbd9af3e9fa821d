package calendar_test

import (
	"math"
	"math/rand"
	"strings"
	"testing"
	"time"

	"annuitant/api"
	"annuitant/calendar"
)

const (
	lastDay   = api.MaxDay - 1
	lastMonth = 2153
)

// noDates are numbers that are not dates.
var noDates = []int{-1, -2, -365, -api.MaxDay, api.MaxDay, api.MaxDay + 1, 2 * api.MaxDay, 1 << 32, math.MinInt, math.MinInt + 1, math.MaxInt}

// date returns a date as package time has it.
func date(day int) time.Time {
	return time.Date(1900, 1, 1+day, 0, 0, 0, 0, time.UTC)
}

// number returns the number of a date of package time.
func number(t time.Time) int {
	return int(t.Sub(date(0)) / (24 * time.Hour))
}

// later is the definition of the date n months later; it reports whether there is one.
func later(day, n int) (int, bool) {
	t := date(day)
	month := time.Date(t.Year(), t.Month()+time.Month(n), 1, 0, 0, 0, 0, time.UTC)
	last := month.AddDate(0, 1, -1).Day()
	result := number(month) + min(t.Day(), last) - 1
	return result, result >= 0 && result <= lastDay
}

// some returns dates: the ends of the calendar, the ends of several months, and others.
func some(count int) []int {
	l := []int{0, 1, 27, 30, 31, 57, 58, 59, 89, 36522, 36523, 36524, 36552, 36554, 36582, 36583, 36584, 36948, lastDay - 37, lastDay - 36, lastDay - 30, lastDay - 6, lastDay - 5, lastDay - 1, lastDay}
	random := rand.New(rand.NewSource(3))
	for len(l) < count {
		l = append(l, random.Intn(api.MaxDay))
	}
	return l[:count]
}

// extreme are numbers of months, years and days beyond all limits.
var extreme = []int{math.MinInt, math.MinInt + 1, -1 << 62, -1 << 32, 1 << 32, 1 << 62, math.MaxInt - 1, math.MaxInt}

// P3.1
func TestLeap(t *testing.T) {
	for year := -5000; year <= 5000; year++ {
		want := date(0).AddDate(year-1900, 2, -1).Day() == 29
		if calendar.Leap(year) != want {
			t.Error(year, !want)
		}
	}
	for year, want := range map[int]bool{0: true, -4: true, -100: false, -400: true, -1: false, 1900: false, 2000: true, 2100: false, math.MinInt: true, math.MinInt + 8: false, math.MinInt + 208: true, math.MaxInt: false, math.MaxInt - 3: true, 1 << 40: true, -1 << 32: true} {
		if calendar.Leap(year) != want {
			t.Error(year, !want)
		}
	}
}

// P3.1
func TestLen(t *testing.T) {
	for year := -3000; year <= 3000; year++ {
		for month := -14; month <= 27; month++ {
			want := 0
			if month >= 1 && month <= 12 {
				want = time.Date(year, time.Month(month)+1, 0, 0, 0, 0, 0, time.UTC).Day()
			}
			if n := calendar.Len(year, month); n != want {
				t.Error(year, month, n, want)
			}
		}
	}
	for _, n := range extreme {
		if calendar.Len(2000, n) != 0 || calendar.Len(n, 0) != 0 || calendar.Len(n, 13) != 0 || calendar.Len(n, n) != 0 {
			t.Error(n)
		}
		if calendar.Len(n, 1) != 31 || calendar.Len(n, 4) != 30 {
			t.Error(n)
		}
	}
	if calendar.Len(math.MaxInt, 2) != 28 || calendar.Len(math.MinInt+8, 2) != 28 || calendar.Len(math.MinInt+208, 2) != 29 {
		t.Error("the length of February")
	}
}

// P3.2, P3.7
func TestDayAndYMD(t *testing.T) {
	for day := range api.MaxDay {
		want := date(day)
		year, month, d, e := calendar.YMD(day)
		if year != want.Year() || month != int(want.Month()) || d != want.Day() || e != api.OK {
			t.Fatal(day, year, month, d, e)
		}
		if back, e := calendar.Day(year, month, d); back != day || e != api.OK {
			t.Fatal(day, back, e)
		}
	}
	if n, e := calendar.Day(2079, 6, 6); n != lastDay || e != api.OK {
		t.Error(n, e)
	}
}

// P3.2
func TestDayOfNoDate(t *testing.T) {
	for year := 1896; year <= 2084; year++ {
		for month := -2; month <= 15; month++ {
			for day := -2; day <= 34; day++ {
				want := time.Date(year, time.Month(month), day, 0, 0, 0, 0, time.UTC)
				n := number(want)
				exists := want.Year() == year && int(want.Month()) == month && want.Day() == day && n >= 0 && n <= lastDay
				got, e := calendar.Day(year, month, day)
				if exists && (got != n || e != api.OK) || !exists && (got != 0 || e != api.ErrArg) {
					t.Fatal(year, month, day, got, e)
				}
			}
		}
	}
	for _, n := range extreme {
		for _, ymd := range [][3]int{{n, 1, 1}, {2000, n, 1}, {2000, 1, n}, {n, n, n}, {n, 2, 29}, {2000, n, n}, {n, 1, n}} {
			if got, e := calendar.Day(ymd[0], ymd[1], ymd[2]); got != 0 || e != api.ErrArg {
				t.Error(ymd, got, e)
			}
		}
	}
}

// P3.2
func TestYMDOfNoDate(t *testing.T) {
	for _, day := range noDates {
		if year, month, d, e := calendar.YMD(day); year != 0 || month != 0 || d != 0 || e != api.ErrArg {
			t.Error(day, year, month, d, e)
		}
	}
}

// P3.3
func TestAdd(t *testing.T) {
	for _, day := range some(120) {
		for n := -lastMonth - 20; n <= lastMonth+20; n++ {
			want, exists := later(day, n)
			got, e := calendar.Add(day, n)
			if exists && (got != want || e != api.OK) || !exists && (got != 0 || e != calendar.ErrDate) {
				t.Fatal(day, n, got, e, want)
			}
		}
		for _, n := range extreme {
			if got, e := calendar.Add(day, n); got != 0 || e != calendar.ErrDate {
				t.Error(day, n, got, e)
			}
		}
	}
	for day := range api.MaxDay {
		for _, n := range []int{-13, -1, 0, 1, 12} {
			want, exists := later(day, n)
			if got, e := calendar.Add(day, n); (e == api.OK) != exists || exists && got != want {
				t.Fatal(day, n, got, e, want)
			}
		}
	}
}

// P3.3: the last month has six dates, and a day that it has not is not replaced by one that it has.
func TestAddToTheLastMonth(t *testing.T) {
	for d := 1; d <= 31; d++ {
		day, _ := calendar.Day(2079, 5, d)
		got, e := calendar.Add(day, 1)
		if d <= 6 && (got != lastDay-6+d || e != api.OK) || d > 6 && (got != 0 || e != calendar.ErrDate) {
			t.Error(d, got, e)
		}
	}
}

// P3.3, R2
func TestAddToNoDate(t *testing.T) {
	for _, day := range noDates {
		for _, n := range append([]int{0, 1, -1, -lastMonth, lastMonth, 1 << 20}, extreme...) {
			if got, e := calendar.Add(day, n); got != 0 || e != api.ErrArg {
				t.Error(day, n, got, e)
			}
		}
	}
}

// P3.4
func TestBetween(t *testing.T) {
	for _, a := range some(60) {
		n := 0
		for b := a; b <= lastDay; b++ {
			if next, exists := later(a, n+1); exists && next <= b {
				n++
			}
			if got, e := calendar.Between(a, b); got != n || e != api.OK {
				t.Fatal(a, b, got, e, n)
			}
			if got, e := calendar.Between(b, a); got != -n || e != api.OK {
				t.Fatal(b, a, got, e, -n)
			}
			if got, e := calendar.Age(a, b); got != n/12 || e != api.OK {
				t.Fatal(a, b, got, e, n/12)
			}
		}
	}
}

// P3.4
func TestBetweenInTheLastMonth(t *testing.T) {
	may := func(d int) int {
		day, _ := calendar.Day(2079, 5, d)
		return day
	}
	for _, c := range []struct{ a, b, want int }{{may(6), lastDay, 1}, {may(7), lastDay, 0}, {may(31), lastDay, 0}, {lastDay, may(31), 0}, {lastDay, may(6), -1}, {0, lastDay, lastMonth}, {5, lastDay, lastMonth}, {6, lastDay, lastMonth - 1}} {
		if got, e := calendar.Between(c.a, c.b); got != c.want || e != api.OK {
			t.Error(c, got, e)
		}
	}
}

// P3.4
func TestBetweenNoDates(t *testing.T) {
	for _, a := range noDates {
		for _, b := range append([]int{0, 1, lastDay}, noDates...) {
			for _, f := range []func(int, int) (int, api.Errno){calendar.Between, calendar.Age} {
				if got, e := f(a, b); got != 0 || e != api.ErrArg {
					t.Error(a, b, got, e)
				}
				if got, e := f(b, a); got != 0 || e != api.ErrArg {
					t.Error(b, a, got, e)
				}
			}
		}
	}
}

// P3.4
func TestAgeBeforeBirth(t *testing.T) {
	for _, birth := range some(60) {
		if n, e := calendar.Age(birth, birth); n != 0 || e != api.OK {
			t.Error(birth, n, e)
		}
		for _, day := range []int{birth - 1, birth - 31, birth - 366} {
			if n, e := calendar.Age(birth, day); n != 0 || e != api.ErrArg {
				t.Error(birth, day, n, e)
			}
		}
	}
}

// P3.5
func TestMonthFirstWeekday(t *testing.T) {
	for day := range api.MaxDay {
		want := date(day)
		month := (want.Year()-1900)*12 + int(want.Month()) - 1
		if got, e := calendar.Month(day); got != month || e != api.OK {
			t.Fatal(day, got, e)
		}
		if got, e := calendar.First(month); got != day-want.Day()+1 || e != api.OK {
			t.Fatal(month, got, e)
		}
		weekday := int(want.Weekday())
		if weekday == 0 {
			weekday = 7
		}
		if got, e := calendar.Weekday(day); got != weekday || e != api.OK {
			t.Fatal(day, got, e)
		}
	}
}

// P3.5
func TestMonthFirstWeekdayOfNoDate(t *testing.T) {
	for _, day := range noDates {
		if n, e := calendar.Month(day); n != 0 || e != api.ErrArg {
			t.Error(day, n, e)
		}
		if n, e := calendar.Weekday(day); n != 0 || e != api.ErrArg {
			t.Error(day, n, e)
		}
	}
	for _, month := range append([]int{-1, -12, lastMonth + 1, lastMonth + 7, api.MaxDay}, extreme...) {
		if n, e := calendar.First(month); n != 0 || e != api.ErrArg {
			t.Error(month, n, e)
		}
	}
}

// P3.6, P3.7
func TestTextAndParse(t *testing.T) {
	before := ""
	for day := range api.MaxDay {
		s := calendar.Text(day)
		if s != date(day).Format("2006-01-02") || s <= before {
			t.Fatal(day, s)
		}
		if got, e := calendar.Parse(s); got != day || e != api.OK {
			t.Fatal(s, got, e)
		}
		before = s
	}
	for _, day := range noDates {
		if s := calendar.Text(day); s != "" {
			t.Error(day, s)
		}
	}
}

// texts returns the days by their texts.
func texts() map[string]int {
	m := map[string]int{}
	for day := range api.MaxDay {
		m[date(day).Format("2006-01-02")] = day
	}
	return m
}

// P3.6
func TestParseChangedTexts(t *testing.T) {
	days := texts()
	check := func(s string) {
		t.Helper()
		want, exists := days[s]
		got, e := calendar.Parse(s)
		if exists && (got != want || e != api.OK) || !exists && (got != 0 || e != api.ErrArg) {
			t.Errorf("%q %d %d", s, got, e)
		}
	}
	for _, day := range some(30) {
		s := calendar.Text(day)
		for i := range len(s) {
			for c := range 256 {
				check(s[:i] + string([]byte{byte(c)}) + s[i+1:])
				check(s[:i] + string([]byte{byte(c)}) + s[i:])
			}
			check(s[:i] + s[i+1:])
			check(s[:i])
			check(s[i:])
		}
		check(s + "\x00")
		check(s + "0")
		check(" " + s)
		check(s + s)
	}
}

// P3.6
func TestParseNoText(t *testing.T) {
	for _, s := range []string{
		"", "-", "--", "1900", "1900-01", "1900-01-0", "1900-01-00", "1900-00-01", "1900-13-01", "1900-02-29", "1900-1-1", "1900-1-001", "1900-001-1", "190-001-01", "01900-1-01",
		"1899-12-31", "2079-06-07", "2079-07-01", "2080-01-01", "9999-12-31", "0000-01-01", "0000-00-00", "2001-02-29", "2000-02-30", "2000-04-31", "2000/02/29", "2000-02/29", "2000.02-29", "20000229", "2000-0229", "200002-29-", "2000--2-29", "2000-+2-29", "-200-02-29", "+200-02-29",
		" 2000-2-29", "2000-02-2 ", "2000-02-\xd9\xa2", "2000\x0002-29", "2000-0x-01", "2000-02-29T", strings.Repeat("2", 100), strings.Repeat("-", 10),
	} {
		if n, e := calendar.Parse(s); n != 0 || e != api.ErrArg {
			t.Errorf("%q %d %d", s, n, e)
		}
	}
}

// P3.7
func TestConsequences(t *testing.T) {
	days := some(150)
	for _, a := range days {
		for _, b := range days {
			if a > b {
				continue
			}
			n, _ := calendar.Between(a, b)
			if day, e := calendar.Add(a, n); day > b || e != api.OK {
				t.Fatal(a, b, n, day, e)
			}
			for _, n := range []int{-1500, -13, -1, 0, 1, 11, 12, 700} {
				x, e := calendar.Add(a, n)
				y, f := calendar.Add(b, n)
				if e == api.OK && f == api.OK && x > y {
					t.Fatal(a, b, n, x, y)
				}
			}
		}
	}
	// 31 January, one and one month later, is 28 March; two months later it is 31 March.
	one, _ := calendar.Add(30, 1)
	two, _ := calendar.Add(one, 1)
	if both, _ := calendar.Add(30, 2); two != 86 || both != 89 {
		t.Error(two, both)
	}
}

func TestExamples(t *testing.T) {
	equal := func(name string, want int, wantError api.Errno) func(int, api.Errno) {
		return func(got int, e api.Errno) {
			if got != want || e != wantError {
				t.Error(name, got, e)
			}
		}
	}
	equal("Day", 36583, api.OK)(calendar.Day(2000, 2, 29))
	equal("Weekday", 2, api.OK)(calendar.Weekday(36583))
	equal("Day", 0, api.ErrArg)(calendar.Day(1900, 2, 29))
	equal("Add", 36948, api.OK)(calendar.Add(36583, 12))
	equal("Add", 36552, api.OK)(calendar.Add(36583, -1))
	equal("Add", 0, calendar.ErrDate)(calendar.Add(65535, 1))
	equal("Between", 1, api.OK)(calendar.Between(30, 58))
	equal("Between", -1, api.OK)(calendar.Between(58, 30))
	equal("Age", 0, api.OK)(calendar.Age(36583, 36947))
	equal("Age", 1, api.OK)(calendar.Age(36583, 36948))
	equal("Month", 1201, api.OK)(calendar.Month(36583))
	equal("First", 36555, api.OK)(calendar.First(1201))
	if s := calendar.Text(36583); s != "2000-02-29" {
		t.Error(s)
	}
	if s := calendar.Text(65535); s != "2079-06-06" {
		t.Error(s)
	}
	if calendar.ErrDate != 30 {
		t.Error(calendar.ErrDate)
	}
}

func BenchmarkYMD(b *testing.B) {
	for b.Loop() {
		calendar.YMD(36583)
	}
}

func BenchmarkAdd(b *testing.B) {
	for b.Loop() {
		calendar.Add(36583, 12)
	}
}

func BenchmarkBetween(b *testing.B) {
	for b.Loop() {
		calendar.Between(12345, 36583)
	}
}
