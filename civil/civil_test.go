package civil_test

import (
	"math"
	"testing"
	"time"

	"corrody/api"
	"corrody/civil"
)

const (
	most  = math.MaxInt
	least = math.MinInt
)

// number is what Day tells.
type number struct {
	n int
	e api.Errno
}

// date is what Date tells.
type date struct {
	year, month, day int
	e                api.Errno
}

func numberOf(year, month, day int) number {
	n, e := civil.Day(year, month, day)
	return number{n, e}
}

func dateOf(n int) date {
	year, month, day, e := civil.Date(n)
	return date{year, month, day, e}
}

// noYears are numbers that are no years: those that 4 or 400 divides, the next ones and the greatest among them.
func noYears() []int {
	return []int{
		0, -1, -3, -4, -8, -96, -100, -104, -399, -400, -401, -2000, -9996, -9999, -10000,
		10000, 10001, 10004, 10100, 10400, 12000, 20000, 1 << 31, 1<<32 + 4, 1<<32 + 2000, -1<<32 + 2000,
		most, most - 3, least, least + 1, least + 4, least + 2000,
	}
}

// noMonths are numbers that are no months.
func noMonths() []int {
	return []int{0, -1, -2, -12, -13, 13, 14, 24, 25, 100, 256 + 2, 1<<32 + 2, most, least, least + 2}
}

// noDays are numbers that are days of no month.
func noDays() []int {
	return []int{0, -1, -2, -28, -31, -365, 32, 33, 59, 60, 366, 256 + 1, 1<<32 + 1, most, least, least + 1}
}

func TestLeap(t *testing.T) { // P4.1
	for _, year := range []int{4, 8, 12, 96, 104, 400, 796, 804, 1600, 1904, 1996, 2000, 2004, 2024, 2400, 9600, 9992, 9996} {
		if !civil.Leap(year) {
			t.Errorf("Leap(%d) is false", year)
		}
	}
	for _, year := range []int{1, 2, 3, 5, 6, 97, 100, 200, 300, 399, 401, 500, 1800, 1900, 1999, 2001, 2002, 2023, 2100, 9700, 9800, 9900, 9997, 9998, 9999} {
		if civil.Leap(year) {
			t.Errorf("Leap(%d) is true", year)
		}
	}
}

// TestLeapNone: what is no year is no leap year, though 4 or 400 divides it.
func TestLeapNone(t *testing.T) { // P4.1
	for _, year := range noYears() {
		if civil.Leap(year) {
			t.Errorf("Leap(%d) is true", year)
		}
	}
}

// TestLeapCount: of any 400 years 97 are leap years.
func TestLeapCount(t *testing.T) { // P4.1
	for from := 1; from+400 <= 10000; from++ {
		n := 0
		for year := from; year < from+400; year++ {
			if civil.Leap(year) {
				n++
			}
		}
		if n != 97 {
			t.Fatalf("%d leap years from %d on", n, from)
		}
	}
}

func TestLength(t *testing.T) { // P4.1
	for _, c := range []struct {
		february int
		years    []int
	}{
		{29, []int{4, 96, 400, 1600, 1996, 2000, 2024, 9600, 9996}},
		{28, []int{1, 2, 3, 5, 100, 200, 300, 1900, 1999, 2001, 2023, 2100, 9900, 9998, 9999}},
	} {
		for _, year := range c.years {
			want := []int{31, c.february, 31, 30, 31, 30, 31, 31, 30, 31, 30, 31}
			for i, n := range want {
				if got := civil.Length(year, i+1); got != n {
					t.Errorf("Length(%d, %d) = %d, want %d", year, i+1, got, n)
				}
			}
		}
	}
}

// TestLengthNone: what is no year or no month has no days.
func TestLengthNone(t *testing.T) { // P4.1
	for _, year := range noYears() {
		for month := -1; month <= 14; month++ {
			if got := civil.Length(year, month); got != 0 {
				t.Errorf("Length(%d, %d) = %d", year, month, got)
			}
		}
	}
	for _, month := range noMonths() {
		for _, year := range append(noYears(), 1, 4, 1900, 2000, 2023, 2024, 9996, 9999) {
			if got := civil.Length(year, month); got != 0 {
				t.Errorf("Length(%d, %d) = %d", year, month, got)
			}
		}
	}
}

// both are dates and their numbers.
func both() map[date]int {
	return map[date]int{
		{1, 1, 1, 0}:      1,
		{1, 1, 2, 0}:      2,
		{1, 1, 31, 0}:     31,
		{1, 2, 1, 0}:      32,
		{1, 2, 28, 0}:     59,
		{1, 3, 1, 0}:      60,
		{1, 12, 31, 0}:    365,
		{2, 1, 1, 0}:      366,
		{3, 12, 31, 0}:    1095,
		{4, 1, 1, 0}:      1096,
		{4, 2, 28, 0}:     1154,
		{4, 2, 29, 0}:     1155,
		{4, 3, 1, 0}:      1156,
		{4, 12, 30, 0}:    1460,
		{4, 12, 31, 0}:    1461,
		{5, 1, 1, 0}:      1462,
		{100, 12, 31, 0}:  36524,
		{101, 1, 1, 0}:    36525,
		{400, 2, 29, 0}:   145791,
		{400, 12, 30, 0}:  146096,
		{400, 12, 31, 0}:  146097,
		{401, 1, 1, 0}:    146098,
		{1900, 2, 28, 0}:  693654,
		{1900, 3, 1, 0}:   693655,
		{1970, 1, 1, 0}:   719163,
		{2000, 1, 1, 0}:   730120,
		{2000, 2, 29, 0}:  730179,
		{2000, 3, 1, 0}:   730180,
		{2000, 12, 31, 0}: 730485,
		{2001, 1, 1, 0}:   730486,
		{9999, 1, 1, 0}:   3651695,
		{9999, 12, 30, 0}: 3652058,
		{9999, 12, 31, 0}: 3652059,
	}
}

func TestDay(t *testing.T) { // P4.2
	for d, n := range both() {
		if got := numberOf(d.year, d.month, d.day); got != (number{n: n}) {
			t.Errorf("Day(%v) = %v, want %d", d, got, n)
		}
	}
}

// TestDayNone: of what is no date nothing but ErrSpan is told.
func TestDayNone(t *testing.T) { // P4.2
	for _, d := range []date{
		{1900, 2, 29, 0}, {2023, 2, 29, 0}, {2100, 2, 29, 0}, {100, 2, 29, 0}, {1, 2, 29, 0}, {9999, 2, 29, 0},
		{2000, 2, 30, 0}, {2024, 2, 30, 0}, {4, 2, 30, 0}, {400, 2, 30, 0}, {2024, 2, 31, 0},
		{2023, 1, 32, 0}, {2023, 3, 32, 0}, {2023, 4, 31, 0}, {2023, 5, 32, 0}, {2023, 6, 31, 0}, {2023, 7, 32, 0},
		{2023, 8, 32, 0}, {2023, 9, 31, 0}, {2023, 10, 32, 0}, {2023, 11, 31, 0}, {2023, 12, 32, 0},
		{0, 1, 1, 0}, {0, 12, 31, 0}, {0, 2, 29, 0}, {-1, 12, 31, 0}, {-4, 2, 29, 0}, {10000, 1, 1, 0}, {10000, 2, 29, 0},
		{2024, 0, 1, 0}, {2024, 13, 1, 0}, {1, 0, 31, 0}, {9999, 13, 1, 0},
		{2024, 1, 0, 0}, {2024, 1, -1, 0}, {2024, 3, 0, 0}, {1, 1, 0, 0}, {9999, 12, 32, 0}, {0, 0, 0, 0},
	} {
		if got := numberOf(d.year, d.month, d.day); got != (number{e: api.ErrSpan}) {
			t.Errorf("Day(%v) = %v", d, got)
		}
	}
}

// TestDayWrong puts what is no year, no month and no day beside all that may be, and beside one another.
func TestDayWrong(t *testing.T) { // P4.2
	years := append(noYears(), 1, 4, 1900, 2000, 2023, 2024, 9996, 9999)
	months := append(noMonths(), 1, 2, 3, 4, 5, 6, 7, 8, 9, 10, 11, 12)
	days := append(noDays(), 1, 2, 15, 28, 29, 30, 31)
	wrong := func(year, month, day int) {
		if got := numberOf(year, month, day); got != (number{e: api.ErrSpan}) {
			t.Errorf("Day(%d, %d, %d) = %v", year, month, day, got)
		}
	}
	for _, year := range noYears() {
		for _, month := range months {
			for _, day := range days {
				wrong(year, month, day)
			}
		}
	}
	for _, year := range years {
		for _, month := range noMonths() {
			for _, day := range days {
				wrong(year, month, day)
			}
		}
		for _, month := range months {
			for _, day := range noDays() {
				wrong(year, month, day)
			}
		}
	}
}

func TestDate(t *testing.T) { // P4.2
	for d, n := range both() {
		if got := dateOf(n); got != d {
			t.Errorf("Date(%d) = %v, want %v", n, got, d)
		}
	}
}

// TestDateNone: beyond 1 to LastDay nothing but ErrSpan is told.
func TestDateNone(t *testing.T) { // P4.2
	for _, n := range []int{
		0, -1, -2, -31, -365, -366, -146097, -api.LastDay, api.LastDay + 1, api.End, api.LastDay + 2, api.LastDay + 365, 2 * api.LastDay,
		1 << 31, 1<<32 + 1, 1<<32 + 730179, -1<<32 + 730179, most, most - 1, most - 365, least, least + 1, least + 2, least + 366,
	} {
		if got := dateOf(n); got != (date{e: api.ErrSpan}) {
			t.Errorf("Date(%d) = %v", n, got)
		}
	}
}

// next is the date behind d, by the lengths that the chapter's words tell of.
func next(d date) date {
	length := 31
	switch d.month {
	case 4, 6, 9, 11:
		length = 30
	case 2:
		length = 28
		if d.year%400 == 0 || d.year%100 != 0 && d.year%4 == 0 {
			length = 29
		}
	}
	d.day++
	if d.day > length {
		d.month, d.day = d.month+1, 1
	}
	if d.month > 12 {
		d.year, d.month = d.year+1, 1
	}
	return d
}

// TestAll goes over all dates and all numbers side by side: they are one and the same, in one order. Behind the last day of each month there is no date.
func TestAll(t *testing.T) { // P4.1, P4.2
	d := date{1, 1, 1, api.OK}
	for n := api.FirstDay; n <= api.LastDay; n++ {
		if got := numberOf(d.year, d.month, d.day); got != (number{n: n}) {
			t.Fatalf("Day(%v) = %v, want %d", d, got, n)
		}
		if got := dateOf(n); got != d {
			t.Fatalf("Date(%d) = %v, want %v", n, got, d)
		}
		was := d
		d = next(d)
		if d.day > 1 {
			continue
		}
		if got := civil.Length(was.year, was.month); got != was.day {
			t.Fatalf("Length(%d, %d) = %d, want %d", was.year, was.month, got, was.day)
		}
		if got := numberOf(was.year, was.month, was.day+1); got != (number{e: api.ErrSpan}) {
			t.Fatalf("Day(%d, %d, %d) = %v", was.year, was.month, was.day+1, got)
		}
		if got := numberOf(was.year, was.month, 0); got != (number{e: api.ErrSpan}) {
			t.Fatalf("Day(%d, %d, 0) = %v", was.year, was.month, got)
		}
	}
	if d != (date{10000, 1, 1, api.OK}) {
		t.Errorf("behind the last day comes %v", d)
	}
}

// TestCalendar holds dates, leap years and their last days against the library's calendar.
func TestCalendar(t *testing.T) { // P4.1, P4.2
	first := time.Date(1, 1, 1, 0, 0, 0, 0, time.UTC)
	for n := api.FirstDay; n <= api.LastDay; n += 13 {
		at := first.AddDate(0, 0, n-1)
		want := date{at.Year(), int(at.Month()), at.Day(), api.OK}
		if got := dateOf(n); got != want {
			t.Fatalf("Date(%d) = %v, want %v", n, got, want)
		}
	}
	for year := 1; year <= 9999; year++ {
		last := time.Date(year, 12, 31, 0, 0, 0, 0, time.UTC)
		if civil.Leap(year) != (last.YearDay() == 366) {
			t.Fatalf("Leap(%d) = %v", year, civil.Leap(year))
		}
		want := int((last.Unix()-first.Unix())/86400) + 1
		if got := numberOf(year, 12, 31); got != (number{n: want}) {
			t.Fatalf("Day(%d, 12, 31) = %v, want %d", year, got, want)
		}
	}
}
