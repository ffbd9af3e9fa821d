package calendar

import (
	"sort"

	"annuitant/api"
)

const (
	firstYear  = 1900
	lastYear   = 2079
	yearMonths = 12
	yearDays   = 365 // days of a year that is not a leap year
	weekDays   = 7
	february   = 2
	months     = 2154 // the months from January 1900 to June 2079
)

// lengths has the numbers of days of the months of a year that is not a leap year.
var lengths = [yearMonths]int{31, 28, 31, 30, 31, 30, 31, 31, 30, 31, 30, 31}

func isDate(day int) bool {
	return day >= 0 && day < api.MaxDay
}

func isMonth(month int) bool {
	return month >= 0 && month < months
}

// monthOf returns the number of a month of a year.
func monthOf(year, month int) int {
	return (year-firstYear)*yearMonths + month - 1
}

// yearAndMonth returns the year and the month, from 1 to 12, of the month with a number.
func yearAndMonth(month int) (int, int) {
	return firstYear + month/yearMonths, month%yearMonths + 1
}

// start returns the number of the first day of the month with a number; it is no date for the months after the last one.
func start(month int) int {
	year, end := yearAndMonth(month)
	day := (year-firstYear)*yearDays + leapYears(year) - leapYears(firstYear)
	for m := 1; m < end; m++ {
		day += Len(year, m)
	}
	return day
}

// leapYears returns the number of leap years from 1 up to the one before a year.
func leapYears(year int) int {
	before := year - 1
	return before/4 - before/100 + before/400
}

// find returns the number of the month of a date. If all years were leap years, the date would be in its year or, as their days more are less than a year together, in the one before: these two are searched.
func find(day int) int {
	first := day / (yearDays + 1) * yearMonths
	return first + sort.Search(2*yearMonths, func(i int) bool { return start(first+i+1) > day })
}

// later returns the date that is n months later than a date, and whether there is one.
func later(day, n int) (int, bool) {
	month := find(day)
	if n < -month || n >= months-month {
		return 0, false
	}
	date := start(month+n) + min(day-start(month), Len(yearAndMonth(month+n))-1)
	return date, isDate(date)
}

// wholeMonths returns the number of whole months from a date to one that is not earlier.
func wholeMonths(from, to int) int {
	n := find(to) - find(from)
	if date, ok := later(from, n); !ok || date > to {
		// The months before that of to have all their dates, so that one month less is always possible.
		return n - 1
	}
	return n
}
