package months_test

import (
	"math"
	"sort"
	"testing"
	"time"

	"corrody/api"
	"corrody/civil"
	"corrody/months"
)

const (
	most  = math.MaxInt
	least = math.MinInt

	all = 9999 * 12 // months of all years
)

// answer is what each call tells.
type answer struct {
	n int
	e api.Errno
}

// none is an answer with an error, and 0 beside it.
func none() answer { return answer{e: api.ErrSpan} }

func add(day, n int) answer {
	r, e := months.Add(day, n)
	return answer{r, e}
}

func years(day, n int) answer {
	r, e := months.Years(day, n)
	return answer{r, e}
}

func begin(day int) answer {
	r, e := months.Begin(day)
	return answer{r, e}
}

func end(day int) answer {
	r, e := months.End(day)
	return answer{r, e}
}

func between(a, b int) answer {
	r, e := months.Between(a, b)
	return answer{r, e}
}

// date is a year, a month, and a day of it.
type date struct{ year, month, day int }

// number is a date's number.
func number(t *testing.T, d date) int {
	t.Helper()
	n, e := civil.Day(d.year, d.month, d.day)
	if e != api.OK {
		t.Fatalf("%v is no date", d)
	}
	return n
}

// told is an answer with a date, if there is one, for remarks on what failed.
func told(a answer) any {
	if year, month, day, e := civil.Date(a.n); a.e == api.OK && e == api.OK {
		return date{year, month, day}
	}
	return a
}

// noDays are numbers that are no days.
func noDays() []int {
	return []int{
		0, -1, -2, -28, -31, -365, -api.LastDay, api.LastDay + 1, api.LastDay + 2, api.LastDay + 31, 2 * api.LastDay,
		1 << 31, 1<<32 + 1, 1<<32 + 738917, -1<<32 + 738917, 1<<62 + 1, most, most - 1, most - 31, least, least + 1, least + 31, least + 738917,
	}
}

// far are numbers of months or years that lead out of all years from any day. Twelve times as many wrap round to small numbers of some.
func far() []int {
	const third = 3074457345618258603 // three times as many are 2^63 and 1
	l := []int{
		all, all + 1, all + 12, -all, -all - 1, -all - 12, 1 << 31, -1 << 31, 1<<32 + 1, -1<<32 + 1, 1<<32 - 12,
		most, most - 1, most - 11, most - 12, most - all, least, least + 1, least + 11, least + 12, least + all,
		most / 12, most/12 + 1, most/12 + 2, least / 12, least/12 - 1, least/12 - 2,
		most / 2, least / 2, third, -third, 2*third - 1, third + 1, third - 1, -third + 1,
	}
	for _, n := range []int{1 << 60, 1 << 61, 1 << 62, -1 << 60, -1 << 61, -1 << 62} {
		l = append(l, n, n+1, n-1, n+2, n-2, n+12, n-12, n+100, n-100, n+2023, n-2023)
	}
	for _, n := range []int{1, 2, 12, 100, 2023} {
		l = append(l, least+n, most-n)
	}
	return l
}

// some are days, the first and the last ones among them.
func some() []int {
	return []int{1, 2, 28, 31, 32, 59, 60, 365, 366, 1155, 730178, 730179, 730180, 738886, 738917, 738946, 3651695, 3652029, 3652058, 3652059}
}

// firsts are the first days of all months, and End behind them, by the lengths that layer 4's words tell of.
func firsts() []int {
	l := []int{api.FirstDay}
	for year := 1; year <= 9999; year++ {
		february := 28
		if year%400 == 0 || year%100 != 0 && year%4 == 0 {
			february = 29
		}
		for _, n := range []int{31, february, 31, 30, 31, 30, 31, 31, 30, 31, 30, 31} {
			l = append(l, l[len(l)-1]+n)
		}
	}
	return l
}

// monthOf is the place of a day's month among those of firsts.
func monthOf(first []int, day int) int { return sort.SearchInts(first, day+1) - 1 }

// behind is what Add should tell of a day that is one.
func behind(first []int, day, n int) answer {
	from := monthOf(first, day)
	to := from + n // the tests hand over no n that is too great for it
	if to < 0 || to >= all {
		return none()
	}
	return answer{n: min(first[to]+day-first[from], first[to+1]-1)}
}

// whole is what Between should tell of two days, counted up from 0 as the chapter's words say.
func whole(first []int, a, b int) int {
	if b < a {
		return -whole(first, b, a)
	}
	n := 0
	for {
		next := behind(first, a, n+1)
		if next.e != api.OK || next.n > b {
			return n
		}
		n++
	}
}

func TestAdd(t *testing.T) { // P5.1
	for _, c := range []struct {
		from date
		n    int
		want date
	}{
		{date{2024, 1, 31}, 1, date{2024, 2, 29}},
		{date{2024, 1, 31}, -2, date{2023, 11, 30}},
		// by none
		{date{2024, 1, 31}, 0, date{2024, 1, 31}},
		{date{2024, 2, 29}, 0, date{2024, 2, 29}},
		{date{1, 1, 1}, 0, date{1, 1, 1}},
		{date{9999, 12, 31}, 0, date{9999, 12, 31}},
		// from the 28th to the 31st into February
		{date{2023, 1, 28}, 1, date{2023, 2, 28}},
		{date{2023, 1, 29}, 1, date{2023, 2, 28}},
		{date{2023, 1, 30}, 1, date{2023, 2, 28}},
		{date{2023, 1, 31}, 1, date{2023, 2, 28}},
		{date{2024, 1, 28}, 1, date{2024, 2, 28}},
		{date{2024, 1, 29}, 1, date{2024, 2, 29}},
		{date{2024, 1, 30}, 1, date{2024, 2, 29}},
		{date{2023, 3, 28}, -1, date{2023, 2, 28}},
		{date{2023, 3, 29}, -1, date{2023, 2, 28}},
		{date{2023, 3, 30}, -1, date{2023, 2, 28}},
		{date{2023, 3, 31}, -1, date{2023, 2, 28}},
		{date{2024, 3, 28}, -1, date{2024, 2, 28}},
		{date{2024, 3, 29}, -1, date{2024, 2, 29}},
		{date{2024, 3, 31}, -1, date{2024, 2, 29}},
		{date{1900, 1, 31}, 1, date{1900, 2, 28}},
		{date{2000, 1, 31}, 1, date{2000, 2, 29}},
		{date{2100, 3, 30}, -1, date{2100, 2, 28}},
		// out of February, its number stays
		{date{2024, 2, 29}, 1, date{2024, 3, 29}},
		{date{2024, 2, 29}, -1, date{2024, 1, 29}},
		{date{2023, 2, 28}, 1, date{2023, 3, 28}},
		// into months of 30 days
		{date{2023, 3, 28}, 1, date{2023, 4, 28}},
		{date{2023, 3, 29}, 1, date{2023, 4, 29}},
		{date{2023, 3, 30}, 1, date{2023, 4, 30}},
		{date{2023, 3, 31}, 1, date{2023, 4, 30}},
		{date{2023, 5, 31}, 1, date{2023, 6, 30}},
		{date{2023, 5, 31}, -1, date{2023, 4, 30}},
		{date{2023, 8, 31}, 1, date{2023, 9, 30}},
		{date{2023, 10, 31}, 1, date{2023, 11, 30}},
		{date{2023, 12, 31}, -1, date{2023, 11, 30}},
		// out of them, and between months of 31
		{date{2023, 4, 30}, 1, date{2023, 5, 30}},
		{date{2023, 4, 30}, -1, date{2023, 3, 30}},
		{date{2023, 7, 31}, 1, date{2023, 8, 31}},
		{date{2023, 8, 31}, -1, date{2023, 7, 31}},
		// over a year's end
		{date{2023, 12, 31}, 1, date{2024, 1, 31}},
		{date{2024, 1, 31}, -1, date{2023, 12, 31}},
		{date{2023, 12, 1}, 1, date{2024, 1, 1}},
		{date{2024, 1, 1}, -1, date{2023, 12, 1}},
		{date{2023, 11, 15}, 14, date{2025, 1, 15}},
		{date{2025, 1, 15}, -14, date{2023, 11, 15}},
		{date{2023, 12, 30}, 2, date{2024, 2, 29}},
		{date{2023, 1, 31}, 13, date{2024, 2, 29}},
		{date{2024, 12, 31}, 2, date{2025, 2, 28}},
		// by twelve
		{date{2024, 2, 29}, 12, date{2025, 2, 28}},
		{date{2024, 2, 29}, -12, date{2023, 2, 28}},
		{date{2023, 2, 28}, 12, date{2024, 2, 28}},
		{date{2025, 2, 28}, -12, date{2024, 2, 28}},
		{date{2023, 1, 31}, 12, date{2024, 1, 31}},
		{date{2023, 12, 31}, 12, date{2024, 12, 31}},
		{date{2023, 12, 31}, -12, date{2022, 12, 31}},
		{date{2024, 2, 29}, 11, date{2025, 1, 29}},
		{date{2024, 2, 29}, -11, date{2023, 3, 29}},
		{date{2024, 2, 29}, 48, date{2028, 2, 29}},
		{date{2000, 2, 29}, -1200, date{1900, 2, 28}},
		{date{2000, 2, 29}, 4800, date{2400, 2, 29}},
		// to the first month and to the last one
		{date{1, 2, 28}, -1, date{1, 1, 28}},
		{date{1, 12, 31}, -11, date{1, 1, 31}},
		{date{2, 1, 31}, -12, date{1, 1, 31}},
		{date{2024, 2, 29}, -2023*12 - 1, date{1, 1, 29}},
		{date{9999, 12, 31}, 1 - all, date{1, 1, 31}},
		{date{9999, 12, 1}, 1 - all, date{1, 1, 1}},
		{date{9999, 12, 31}, 2 - all, date{1, 2, 28}},
		{date{9999, 11, 30}, 1, date{9999, 12, 30}},
		{date{9999, 1, 31}, 11, date{9999, 12, 31}},
		{date{9998, 12, 31}, 12, date{9999, 12, 31}},
		{date{2024, 2, 29}, 7975*12 + 10, date{9999, 12, 29}},
		{date{1, 1, 1}, all - 1, date{9999, 12, 1}},
		{date{1, 1, 31}, all - 1, date{9999, 12, 31}},
		{date{1, 1, 31}, all - 2, date{9999, 11, 30}},
	} {
		want := answer{n: number(t, c.want)}
		if got := add(number(t, c.from), c.n); got != want {
			t.Errorf("Add(%v, %d) = %v, want %v", c.from, c.n, told(got), c.want)
		}
	}
}

// TestAddNoYear: what leads ahead of the year 1 or behind the year 9999 is told of as nothing but ErrSpan.
func TestAddNoYear(t *testing.T) { // P5.1
	for _, c := range []struct {
		from date
		n    int
	}{
		{date{1, 1, 1}, -1}, {date{1, 1, 31}, -1}, {date{1, 1, 1}, -2}, {date{1, 1, 15}, -11}, {date{1, 1, 15}, -12}, {date{1, 1, 15}, -13},
		{date{1, 2, 28}, -2}, {date{1, 12, 31}, -12}, {date{1, 12, 31}, -13}, {date{2, 1, 1}, -13}, {date{2024, 2, 29}, -2023*12 - 2},
		{date{9999, 12, 1}, 1}, {date{9999, 12, 31}, 1}, {date{9999, 12, 1}, 2}, {date{9999, 12, 15}, 12}, {date{9999, 11, 30}, 2},
		{date{9999, 1, 1}, 12}, {date{9998, 12, 31}, 13}, {date{2024, 2, 29}, 7975*12 + 11},
		{date{1, 1, 1}, all}, {date{1, 1, 31}, all + 1}, {date{9999, 12, 31}, -all}, {date{9999, 12, 1}, -all - 1},
	} {
		if got := add(number(t, c.from), c.n); got != none() {
			t.Errorf("Add(%v, %d) = %v", c.from, c.n, told(got))
		}
	}
	for _, day := range some() {
		for _, n := range far() {
			if got := add(day, n); got != none() {
				t.Errorf("Add(%d, %d) = %v", day, n, told(got))
			}
		}
	}
}

// TestAddAll holds Add of each month's first, last and middle days, by small numbers and by those at the edges, against a list of all months. It never leaves the month that is asked.
func TestAddAll(t *testing.T) { // P5.1
	first := firsts()
	for m := range all {
		length := first[m+1] - first[m]
		for _, d := range []int{1, 15, 28, 29, 30, 31} {
			day := first[m] + min(d, length) - 1
			for _, n := range []int{0, 1, -1, 2, -2, 5, -7, 11, -11, 12, -12, 13, -13, 48, -48, 1200, -4800, -m, -m + 1, -m - 1, all - 1 - m, all - 2 - m, all - m} {
				got, want := add(day, n), behind(first, day, n)
				if got != want {
					t.Fatalf("Add(%v, %d) = %v, want %v", told(answer{n: day}), n, told(got), told(want))
				}
				if got.e == api.OK && monthOf(first, got.n) != m+n {
					t.Fatalf("Add(%d, %d) = %d, which is of another month", day, n, got.n)
				}
			}
		}
	}
}

// TestAddBack: a day of at most 28 that is moved there and back is itself, and is where the library's calendar puts it.
func TestAddBack(t *testing.T) { // P5.1
	zero := time.Date(1, 1, 1, 0, 0, 0, 0, time.UTC)
	for day := api.FirstDay; day <= api.LastDay; day += 37 {
		at := zero.AddDate(0, 0, day-1)
		for _, n := range []int{1, -1, 2, 11, 12, -12, 25, -90, 1000, -12000, 60000, -60000} {
			there := add(day, n)
			if at.Day() > 28 || there.e != api.OK {
				continue
			}
			if back := add(there.n, -n); back != (answer{n: day}) {
				t.Fatalf("Add(%d, %d) = %d, and back %v", day, n, there.n, back)
			}
			want := int(at.AddDate(0, n, 0).Unix()-zero.Unix())/86400 + 1
			if there.n != want {
				t.Fatalf("Add(%d, %d) = %d, want %d", day, n, there.n, want)
			}
		}
	}
}

func TestYears(t *testing.T) { // P5.1
	for _, c := range []struct {
		from date
		n    int
		want date
	}{
		{date{2024, 2, 29}, 1, date{2025, 2, 28}},
		{date{2024, 2, 29}, -1, date{2023, 2, 28}},
		{date{2024, 2, 29}, 0, date{2024, 2, 29}},
		{date{2024, 2, 29}, 4, date{2028, 2, 29}},
		{date{2024, 2, 29}, -4, date{2020, 2, 29}},
		{date{2024, 2, 29}, 12, date{2036, 2, 29}},
		{date{2024, 2, 29}, -12, date{2012, 2, 29}},
		{date{2024, 2, 29}, 2, date{2026, 2, 28}},
		{date{2023, 2, 28}, 1, date{2024, 2, 28}},
		{date{2025, 2, 28}, -1, date{2024, 2, 28}},
		{date{1896, 2, 29}, 4, date{1900, 2, 28}},
		{date{1904, 2, 29}, -4, date{1900, 2, 28}},
		{date{1896, 2, 29}, 8, date{1904, 2, 29}},
		{date{2000, 2, 29}, 100, date{2100, 2, 28}},
		{date{2000, 2, 29}, 400, date{2400, 2, 29}},
		{date{2000, 2, 29}, -400, date{1600, 2, 29}},
		{date{2023, 1, 31}, 1, date{2024, 1, 31}},
		{date{2023, 4, 30}, 1, date{2024, 4, 30}},
		{date{2023, 12, 31}, -12, date{2011, 12, 31}},
		{date{2023, 12, 31}, 1, date{2024, 12, 31}},
		{date{2023, 1, 1}, -1, date{2022, 1, 1}},
		// to the first year and to the last one
		{date{1, 1, 1}, 0, date{1, 1, 1}},
		{date{9999, 12, 31}, 0, date{9999, 12, 31}},
		{date{1, 1, 1}, 9998, date{9999, 1, 1}},
		{date{1, 12, 31}, 9998, date{9999, 12, 31}},
		{date{4, 2, 29}, 9995, date{9999, 2, 28}},
		{date{9998, 12, 31}, 1, date{9999, 12, 31}},
		{date{9999, 12, 31}, -9998, date{1, 12, 31}},
		{date{9999, 1, 1}, -9998, date{1, 1, 1}},
		{date{9996, 2, 29}, -9995, date{1, 2, 28}},
		{date{2, 1, 31}, -1, date{1, 1, 31}},
		{date{2024, 2, 29}, -2023, date{1, 2, 28}},
		{date{2024, 2, 29}, 7975, date{9999, 2, 28}},
	} {
		want := answer{n: number(t, c.want)}
		if got := years(number(t, c.from), c.n); got != want {
			t.Errorf("Years(%v, %d) = %v, want %v", c.from, c.n, told(got), c.want)
		}
	}
}

// TestYearsNoYear: what leads ahead of the year 1 or behind the year 9999 is told of as nothing but ErrSpan, though twelve times as many would wrap round.
func TestYearsNoYear(t *testing.T) { // P5.1
	for _, c := range []struct {
		from date
		n    int
	}{
		{date{1, 1, 1}, -1}, {date{1, 12, 31}, -1}, {date{1, 6, 15}, -12}, {date{2, 1, 1}, -2}, {date{2, 12, 31}, -2}, {date{2024, 2, 29}, -2024},
		{date{9999, 1, 1}, 1}, {date{9999, 12, 31}, 1}, {date{9999, 6, 15}, 12}, {date{9998, 1, 1}, 2}, {date{9998, 12, 31}, 2}, {date{2024, 2, 29}, 7976},
		{date{1, 1, 1}, 9999}, {date{1, 1, 1}, 10000}, {date{1, 12, 31}, 9999}, {date{1, 12, 31}, -9998}, {date{1, 12, 31}, -9999}, {date{1, 12, 31}, -10000},
		{date{9999, 12, 31}, -9999}, {date{9999, 12, 31}, -10000}, {date{9999, 1, 1}, -9999}, {date{9999, 1, 1}, 9998}, {date{9999, 1, 1}, 9999}, {date{9999, 1, 1}, 10000},
	} {
		if got := years(number(t, c.from), c.n); got != none() {
			t.Errorf("Years(%v, %d) = %v", c.from, c.n, told(got))
		}
	}
	for _, day := range some() {
		for _, n := range far() {
			if got := years(day, n); got != none() {
				t.Errorf("Years(%d, %d) = %v", day, n, told(got))
			}
		}
	}
}

// TestYearsAll: some years behind are twelve times as many months, of days of all years.
func TestYearsAll(t *testing.T) { // P5.1
	first := firsts()
	for day := api.FirstDay; day <= api.LastDay; day += 29 {
		year := monthOf(first, day)/12 + 1
		for _, n := range []int{0, 1, -1, 3, -4, 12, -12, 100, -400, 1 - year, -year, 9999 - year, 10000 - year} {
			if got, want := years(day, n), behind(first, day, 12*n); got != want {
				t.Fatalf("Years(%v, %d) = %v, want %v", told(answer{n: day}), n, told(got), told(want))
			}
		}
	}
}

// TestNoDay: of what is no day nothing but ErrSpan is told, whatever stands beside it.
func TestNoDay(t *testing.T) { // P5.1, P5.2, P5.3
	for _, day := range noDays() {
		for _, n := range append(far(), 0, 1, -1, 12, -12, 100, -100, 9998, -9998, all-1, 1-all) {
			if got := add(day, n); got != none() {
				t.Errorf("Add(%d, %d) = %v", day, n, got)
			}
			if got := years(day, n); got != none() {
				t.Errorf("Years(%d, %d) = %v", day, n, got)
			}
		}
		if got := begin(day); got != none() {
			t.Errorf("Begin(%d) = %v", day, got)
		}
		if got := end(day); got != none() {
			t.Errorf("End(%d) = %v", day, got)
		}
		for _, other := range append(noDays(), some()...) {
			if got := between(day, other); got != none() {
				t.Errorf("Between(%d, %d) = %v", day, other, got)
			}
			if got := between(other, day); got != none() {
				t.Errorf("Between(%d, %d) = %v", other, day, got)
			}
		}
	}
}

func TestBeginEnd(t *testing.T) { // P5.2
	for _, c := range []struct {
		year, month int
		length      int
	}{
		{1, 1, 31}, {1, 2, 28}, {4, 2, 29}, {1900, 2, 28}, {2000, 2, 29}, {2100, 2, 28},
		{2023, 1, 31}, {2023, 2, 28}, {2023, 3, 31}, {2023, 4, 30}, {2023, 5, 31}, {2023, 6, 30},
		{2023, 7, 31}, {2023, 8, 31}, {2023, 9, 30}, {2023, 10, 31}, {2023, 11, 30}, {2023, 12, 31},
		{2024, 1, 31}, {2024, 2, 29}, {2024, 3, 31}, {2024, 12, 31}, {9999, 2, 28}, {9999, 11, 30}, {9999, 12, 31},
	} {
		first := answer{n: number(t, date{c.year, c.month, 1})}
		last := answer{n: number(t, date{c.year, c.month, c.length})}
		for _, d := range []int{1, 2, 14, 15, 16, 27, 28, c.length - 1, c.length} {
			day := date{c.year, c.month, d}
			if got := begin(number(t, day)); got != first {
				t.Errorf("Begin(%v) = %v, want %v", day, told(got), told(first))
			}
			if got := end(number(t, day)); got != last {
				t.Errorf("End(%v) = %v, want %v", day, told(got), told(last))
			}
		}
	}
}

// TestBeginEndEdges: day 1 is the first one of its month, LastDay the last one of its own.
func TestBeginEndEdges(t *testing.T) { // P5.2
	for _, c := range []struct{ day, first, last int }{
		{1, 1, 31}, {31, 1, 31}, {32, 32, 59}, {59, 32, 59}, {60, 60, 90},
		{730151, 730151, 730179}, {730179, 730151, 730179}, {730180, 730180, 730210},
		{3652028, 3651999, 3652028}, {3652029, 3652029, 3652059}, {api.LastDay, 3652029, api.LastDay},
	} {
		if got := begin(c.day); got != (answer{n: c.first}) {
			t.Errorf("Begin(%d) = %v, want %d", c.day, got, c.first)
		}
		if got := end(c.day); got != (answer{n: c.last}) {
			t.Errorf("End(%d) = %v, want %d", c.day, got, c.last)
		}
	}
}

// TestBeginEndAll holds the first and the last days of all days' months against a list of all months.
func TestBeginEndAll(t *testing.T) { // P5.2
	first := firsts()
	for m := range all {
		for day := first[m]; day < first[m+1]; day++ {
			if got := begin(day); got != (answer{n: first[m]}) {
				t.Fatalf("Begin(%d) = %v, want %d", day, got, first[m])
			}
			if got := end(day); got != (answer{n: first[m+1] - 1}) {
				t.Fatalf("End(%d) = %v, want %d", day, got, first[m+1]-1)
			}
		}
	}
}

func TestBetween(t *testing.T) { // P5.3
	for _, c := range []struct {
		a, b date
		want int
	}{
		{date{2024, 1, 31}, date{2024, 2, 29}, 1},
		// a day and itself
		{date{2024, 1, 31}, date{2024, 1, 31}, 0},
		{date{2024, 2, 29}, date{2024, 2, 29}, 0},
		{date{1, 1, 1}, date{1, 1, 1}, 0},
		{date{9999, 12, 31}, date{9999, 12, 31}, 0},
		// within a month
		{date{2024, 1, 1}, date{2024, 1, 31}, 0},
		{date{2024, 1, 1}, date{2024, 1, 2}, 0},
		// a number that is one less, as great, one more
		{date{2024, 1, 15}, date{2024, 2, 14}, 0},
		{date{2024, 1, 15}, date{2024, 2, 15}, 1},
		{date{2024, 1, 15}, date{2024, 2, 16}, 1},
		{date{2024, 1, 15}, date{2024, 3, 14}, 1},
		{date{2024, 1, 15}, date{2024, 3, 15}, 2},
		{date{2024, 1, 15}, date{2025, 1, 14}, 11},
		{date{2024, 1, 15}, date{2025, 1, 15}, 12},
		{date{2024, 1, 15}, date{2025, 1, 16}, 12},
		{date{2024, 1, 15}, date{2025, 2, 14}, 12},
		{date{2024, 1, 15}, date{2025, 2, 15}, 13},
		{date{2023, 12, 2}, date{2024, 1, 1}, 0},
		{date{2023, 12, 1}, date{2024, 1, 1}, 1},
		{date{2023, 12, 31}, date{2024, 1, 30}, 0},
		{date{2023, 12, 31}, date{2024, 1, 31}, 1},
		{date{2024, 1, 2}, date{2024, 2, 1}, 0},
		{date{2024, 1, 31}, date{2024, 2, 1}, 0},
		// last days of months of unlike length
		{date{2024, 1, 31}, date{2024, 2, 28}, 0},
		{date{2023, 1, 31}, date{2023, 2, 28}, 1},
		{date{2023, 1, 30}, date{2023, 2, 28}, 1},
		{date{2023, 1, 29}, date{2023, 2, 28}, 1},
		{date{2023, 1, 28}, date{2023, 2, 28}, 1},
		{date{2023, 1, 31}, date{2023, 2, 27}, 0},
		{date{2023, 1, 28}, date{2023, 2, 27}, 0},
		{date{2023, 3, 31}, date{2023, 4, 30}, 1},
		{date{2023, 3, 31}, date{2023, 4, 29}, 0},
		{date{2023, 4, 30}, date{2023, 5, 31}, 1},
		{date{2023, 4, 30}, date{2023, 5, 30}, 1},
		{date{2023, 4, 30}, date{2023, 5, 29}, 0},
		{date{2024, 2, 29}, date{2024, 3, 31}, 1},
		{date{2024, 2, 29}, date{2024, 3, 29}, 1},
		{date{2024, 2, 29}, date{2024, 3, 28}, 0},
		{date{2024, 2, 29}, date{2025, 2, 28}, 12},
		{date{2024, 2, 29}, date{2025, 2, 27}, 11},
		{date{2023, 2, 28}, date{2024, 2, 28}, 12},
		{date{2023, 2, 28}, date{2024, 2, 27}, 11},
		{date{2023, 2, 28}, date{2024, 2, 29}, 12},
		{date{2024, 2, 29}, date{2028, 2, 28}, 47},
		{date{2024, 2, 29}, date{2028, 2, 29}, 48},
		{date{2023, 1, 31}, date{2023, 3, 30}, 1},
		{date{2023, 1, 31}, date{2023, 3, 31}, 2},
		// the first and the last days
		{date{1, 1, 1}, date{9999, 12, 31}, all - 1},
		{date{1, 1, 31}, date{9999, 12, 31}, all - 1},
		{date{1, 1, 31}, date{9999, 12, 30}, all - 2},
		{date{1, 1, 1}, date{9999, 12, 1}, all - 1},
		{date{1, 1, 2}, date{9999, 12, 1}, all - 2},
		{date{1, 1, 1}, date{1, 1, 31}, 0},
		{date{1, 1, 31}, date{1, 2, 28}, 1},
		{date{9999, 12, 1}, date{9999, 12, 31}, 0},
		{date{9999, 11, 30}, date{9999, 12, 31}, 1},
	} {
		a, b := number(t, c.a), number(t, c.b)
		if got := between(a, b); got != (answer{n: c.want}) {
			t.Errorf("Between(%v, %v) = %v, want %d", c.a, c.b, got, c.want)
		}
		// of both changed about the same, below 0: counted from the earlier one, not back from the later one
		if got := between(b, a); got != (answer{n: -c.want}) {
			t.Errorf("Between(%v, %v) = %v, want %d", c.b, c.a, got, -c.want)
		}
	}
}

// TestBetweenPairs holds all pairs of days around leap days and at both ends of the years against months counted up from 0.
func TestBetweenPairs(t *testing.T) { // P5.3
	first := firsts()
	for _, span := range [][2]date{
		{{2023, 12, 20}, {2024, 5, 10}},
		{{1899, 12, 25}, {1900, 4, 5}},
		{{2022, 12, 28}, {2023, 4, 2}},
		{{1, 1, 1}, {1, 4, 10}},
		{{9999, 9, 20}, {9999, 12, 31}},
	} {
		from, to := number(t, span[0]), number(t, span[1])
		for a := from; a <= to; a++ {
			for b := from; b <= to; b++ {
				if got, want := between(a, b), whole(first, a, b); got != (answer{n: want}) {
					t.Fatalf("Between(%d, %d) = %v, want %d", a, b, got, want)
				}
			}
		}
	}
	for _, a := range some() {
		for _, b := range some() {
			if got, want := between(a, b), whole(first, a, b); got != (answer{n: want}) {
				t.Errorf("Between(%d, %d) = %v, want %d", a, b, got, want)
			}
		}
	}
}

// TestBetweenFar: of days all over the years, so many months behind a there is a day that is not behind b, and one more month behind there is not.
func TestBetweenFar(t *testing.T) { // P5.3
	for a := api.FirstDay; a <= api.LastDay; a += 7919 {
		for b := a; b <= api.LastDay; b += 6007 {
			got := between(a, b)
			if got.e != api.OK || between(b, a) != (answer{n: -got.n}) {
				t.Fatalf("Between(%d, %d) = %v, and changed about %v", a, b, got, between(b, a))
			}
			if at := add(a, got.n); at.e != api.OK || at.n > b {
				t.Fatalf("Between(%d, %d) = %v, but so many behind is %v", a, b, got, at)
			}
			if at := add(a, got.n+1); at.e == api.OK && at.n <= b {
				t.Fatalf("Between(%d, %d) = %v, but one more behind is %v", a, b, got, at)
			}
		}
	}
}
