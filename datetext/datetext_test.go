package datetext_test

import (
	"fmt"
	"math"
	"regexp"
	"slices"
	"strings"
	"sync"
	"testing"

	"corrody/api"
	"corrody/datetext"
)

const (
	most  = math.MaxInt
	least = math.MinInt
)

// number is what Parse tells.
type number struct {
	n int
	e api.Errno
}

// days is what ParseSpan tells.
type days struct {
	x api.Span
	e api.Errno
}

func parse(s string) number {
	n, e := datetext.Parse(s)
	return number{n, e}
}

func parseSpan(s string) days {
	x, e := datetext.ParseSpan(s)
	return days{x, e}
}

// bad and badSpan are answers with an error, and nothing beside it.
func bad(e api.Errno) number   { return number{e: e} }
func badSpan(e api.Errno) days { return days{e: e} }

// span is the span from a day on, below another one.
func span(from, to int) api.Span { return api.Span{From: from, To: to} }

// lengths are the lengths of a year's months, by layer 4's words.
func lengths(year int) []int {
	february := 28
	if year%400 == 0 || year%100 != 0 && year%4 == 0 {
		february = 29
	}
	return []int{31, february, 31, 30, 31, 30, 31, 31, 30, 31, 30, 31}
}

// dates calls f with each day, in their order, and its text.
func dates(f func(n int, text string)) {
	n := api.FirstDay
	for year := 1; year <= 9999; year++ {
		for i, length := range lengths(year) {
			month := fmt.Sprintf("%04d-%02d-", year, i+1)
			for day := 1; day <= length; day++ {
				f(n, month+string(rune('0'+day/10))+string(rune('0'+day%10)))
				n++
			}
		}
	}
}

// texts are all days' texts, at their days; of 0, which is none, an empty one.
func texts() []string {
	l := make([]string, 1, api.End)
	dates(func(n int, text string) { l = append(l, text) })
	return l
}

// numbers are the days of all texts, made but once, since they are many.
var numbers = sync.OnceValue(func() map[string]int {
	m := make(map[string]int, api.LastDay)
	dates(func(n int, text string) { m[text] = n })
	return m
})

// These go from a text's first byte to its last one: \z does not pass over a line's end, as $ may elsewhere.
var (
	form     = regexp.MustCompile(`\A[0-9]{4}-[0-9]{2}-[0-9]{2}\z`)
	formSpan = regexp.MustCompile(`\A([0-9]{4}-[0-9]{2}-[0-9]{2})\.\.([0-9]{4}-[0-9]{2}-[0-9]{2})\z`)
)

// want is what Parse should tell, by a pattern and the days of all texts.
func want(day map[string]int, s string) number {
	if !form.MatchString(s) {
		return bad(api.ErrForm)
	}
	if n, ok := day[s]; ok {
		return number{n: n}
	}
	return bad(api.ErrSpan)
}

// wantSpan is what ParseSpan should tell, likewise.
func wantSpan(day map[string]int, s string) days {
	l := formSpan.FindStringSubmatch(s)
	if l == nil {
		return badSpan(api.ErrForm)
	}
	first, last := day[l[1]], day[l[2]]
	if first == 0 || last == 0 || last < first {
		return badSpan(api.ErrSpan)
	}
	return days{x: span(first, last+1)}
}

// noDays are numbers that are no days.
func noDays() []int {
	return []int{
		0, -1, -2, -31, -365, -730179, -api.LastDay, -api.End, api.LastDay + 1, api.LastDay + 2, api.LastDay + 366, 2 * api.LastDay,
		1 << 31, 1<<31 - 1, -1 << 31, 1<<32 + 1, 1<<32 + 730179, -1<<32 + 730179, 1<<62 + 1, most, most - 1, least, least + 1, least + 730179,
	}
}

// both are texts of days, each of which is the text of that one, and read as it.
func both() map[string]int {
	return map[string]int{
		// the first days and the last ones
		"0001-01-01": 1, "0001-01-02": 2, "0001-01-09": 9, "0001-01-10": 10, "0001-12-31": 365, "0002-01-01": 366,
		"0004-12-31": 1461, "9999-12-31": 3652059, "9999-12-30": 3652058, "9999-12-01": 3652029, "9999-01-01": 3651695, "9998-12-31": 3651694,
		// months of a year, their first days and their last ones
		"2023-01-01": 738521, "2023-01-31": 738551, "2023-02-01": 738552, "2023-02-28": 738579, "2023-03-01": 738580, "2023-03-31": 738610,
		"2023-04-01": 738611, "2023-04-30": 738640, "2023-05-01": 738641, "2023-05-31": 738671, "2023-06-01": 738672, "2023-06-30": 738701,
		"2023-07-01": 738702, "2023-07-31": 738732, "2023-08-01": 738733, "2023-08-31": 738763, "2023-09-01": 738764, "2023-09-30": 738793,
		"2023-10-01": 738794, "2023-10-31": 738824, "2023-11-01": 738825, "2023-11-30": 738854, "2023-12-01": 738855, "2023-12-31": 738885,
		// ends of February
		"2000-02-28": 730178, "2000-02-29": 730179, "2000-03-01": 730180, "2024-02-28": 738944, "2024-02-29": 738945, "2024-03-01": 738946,
		"1900-02-28": 693654, "1900-03-01": 693655, "0004-02-29": 1155, "0400-02-29": 145791, "9996-02-29": 3650658,
		// years of one, two and three digits, and the next ones
		"0009-12-31": 3287, "0010-01-01": 3288, "0012-10-10": 4301, "0099-12-31": 36159, "0100-01-01": 36160, "0101-01-01": 36525,
		"0999-12-31": 364877, "1000-01-01": 364878, "1001-01-01": 365243,
	}
}

func TestText(t *testing.T) { // P6.1
	for s, n := range both() {
		if got := datetext.Text(n); got != s {
			t.Errorf("Text(%d) = %q, want %q", n, got, s)
		}
	}
}

// TestTextNone: what is no day has no text.
func TestTextNone(t *testing.T) { // P6.1
	for _, n := range noDays() {
		if got := datetext.Text(n); got != "" {
			t.Errorf("Text(%d) = %q", n, got)
		}
	}
}

func TestParse(t *testing.T) { // P6.1
	for s, n := range both() {
		if got := parse(s); got != (number{n: n}) {
			t.Errorf("Parse(%q) = %v, want %d", s, got, n)
		}
	}
}

// TestAllDays: each day has its text, which is read as that day.
func TestAllDays(t *testing.T) { // P6.1
	failed := 0
	dates(func(n int, s string) {
		if failed > 9 {
			return
		}
		if got := datetext.Text(n); got != s {
			t.Errorf("Text(%d) = %q, want %q", n, got, s)
			failed++
		}
		if got := parse(s); got != (number{n: n}) {
			t.Errorf("Parse(%q) = %v, want %d", s, got, n)
			failed++
		}
	})
}

// strays are texts that stand at no place of a text, but for a digit or a mark at the place of one: signs, blanks, other marks, letters, bytes that are no letter, letters of several bytes, and digits of other scripts.
func strays() []string {
	return []string{
		"+", "-", "--", ".", "..", ",", "/", ":", ";", "_", "~", "*", "'", "\\", "|", " ", "\t", "\n", "\r", "\x00", "\x7f", "a", "e", "x", "O", "l", "Z", "T",
		"\x80", "\xad", "\xb0", "\xb1", "\xc3", "\xe2\x80", "\xed\xa0\x80", "\xf0", "\xfe", "\xff", "\xc0\xb0", "\xc0\xad",
		"\u00ad", "\u00b2", "\u00bd", "\u00e9", "\u0130", "\u0131", "\u0430", "\u200b", "\ufeff", "\ufffd", "\U0001d11e",
		"\u0661", "\u06f1", "\u0967", "\u2070", "\u2080", "\u2160", "\u4e00", "\uff10", "\uff11", "\U0001d7ce", "\U0001d7cf",
		"\u2010", "\u2011", "\u2012", "\u2013", "\u2014", "\u2015", "\u2212", "\uff0d", "\u2024", "\u2025", "\uff0e",
	}
}

func TestParseForm(t *testing.T) { // P6.1
	for _, s := range []string{
		"", " ", "-", "--", "0", "2000", "2000-", "2000-02", "2000-02-", "-02-29", "2000--29", "--29", "0000000000", "----------", "          ",
		// a digit too few, a digit too many
		"2000-2-29", "2000-02-2", "200-02-29", "00-02-29", "-02-29", "2000-002-29", "2000-02-029", "02000-02-29", "20000-02-29", "2000-02-299", "2000-2-029", "200-002-29", "02000-2-29",
		"1-1-1", "1-01-01", "01-01-01", "001-01-01", "0001-1-01", "0001-01-1", "0001-1-1", "10000-01-01", "10000-1-01", "99999-12-31", "0000-0-00", "0000-00-0", "000-00-00",
		// signs
		"+000-01-01", "-001-01-01", "-2000-02-29", "+2000-02-29", "2000-+2-29", "2000--2-29", "2000-02-+9", "2000-02--9", "2000-02-29-", "2000-02-29+", "-200-02-29",
		// blanks
		" 2000-02-29", "2000-02-29 ", "2000 -02-29", "2000- 2-29", "2000-02- 9", " 000-02-29", "2000-2 -29", "2000 02 29", "2000-02 29", "2000 02-29", "2000-02-29\n", "\n2000-02-29", "2000-02-2\n", "2000-02-29\x00", "\x002000-02-29", "\t000-02-29",
		// other marks, other places of them
		"2000.02.29", "2000/02/29", "2000:02:29", "2000_02_29", "2000,02,29", "2000-02.29", "2000.02-29", "2000-02/29", "2000--0229", "200-002-29", "2000-0-229", "20-00-02-2", "2000022-9-", "20000-2-29", "02-29-2000", "29-02-2000", "29.02.2000", "20000229", "2000-0229", "200002-29", "2000002029", "2000-02029", "2000002-29", "2000-060", "2000-02-29-01", "2000-W09-2",
		// letters
		"200O-02-29", "2000-Feb-29", "2000-02-2a", "2000-0a-29", "abcd-ef-gh", "0x10-02-29", "1e10-02-29", "x2000-02-29", "2000-02-29x", "2000-02-29T00", "2000-02-29T00:00:00Z",
		// digits of other scripts, bytes that are no letter
		"\u0662\u0660\u0660\u0660-\u0660\u0662-\u0662\u0669", "\u06f2\u06f0\u06f0\u06f0-02-29", "\uff12000-02-29", "\u0662000-02-29", "\u066200-02-29", "2000-\u0662-29", "2000-02-\u0662", "2000-02-2\u0662",
		"2000\u201302-29", "2000-02\u221229", "\xff000-02-29", "2000-02-2\xff", "2000\xad02-29", "2000-0\xb2-29", "\xb2\xb0\xb0\xb0-02-29", "\xff\xff\xff\xff\xff\xff\xff\xff\xff\xff",
		"\u00e92000-02-29", "2000-02-29\u00e9", "\u00e900-02-29", "2000\u00e902-29", "\ufeff2000-02-29", "\u0660\u0660\u0660\u0660\u0660",
		// not of the form, and no date beside it
		"0000-0-00", "2000-13-1", "2000-1-32", "1900-2-29", "0000/00/00", "0000-00-00 ", "9999-99-990", "10000-00-00",
		// spans, and longer texts
		"2000-02-29..2000-02-29", "2000-02-29..", "..2000-02-29", "2000-02-29.", "2000-02-292000-02-29",
		strings.Repeat("0", 1<<16), strings.Repeat("-", 1<<16), strings.Repeat("2000-02-29", 1000), strings.Repeat("\u0660", 1000),
	} {
		if got := parse(s); got != bad(api.ErrForm) {
			t.Errorf("Parse(%q) = %v", s, got)
		}
	}
}

// TestParseNoDate: what is of the form and is no date.
func TestParseNoDate(t *testing.T) { // P6.1
	for _, s := range []string{
		"0000-00-00", "0000-01-01", "0000-02-29", "0000-12-31", "0000-13-32", "0000-99-99", "9999-99-99",
		"2000-00-01", "2000-00-00", "2000-00-31", "2000-13-01", "2000-13-31", "2000-14-01", "2000-20-01", "2000-21-01", "2000-99-01", "0001-00-01", "9999-13-01",
		"2000-01-00", "2000-02-00", "2000-12-00", "0001-01-00", "9999-12-00", "2000-01-32", "2000-12-32", "9999-12-32", "0001-01-32", "2000-01-99", "2000-01-60",
		"2000-04-31", "2000-06-31", "2000-09-31", "2000-11-31", "2023-04-31", "9999-11-31", "0001-04-31",
		"2000-02-30", "2000-02-31", "2000-02-32", "2024-02-30", "2023-02-29", "2023-02-30", "1900-02-29", "2100-02-29", "0100-02-29", "0001-02-29", "0003-02-29", "0200-02-29", "0300-02-29", "9900-02-29", "9999-02-29", "9998-02-29",
	} {
		if got := parse(s); got != bad(api.ErrSpan) {
			t.Errorf("Parse(%q) = %v", s, got)
		}
	}
}

// TestParseNumbers holds each text of the form, of some years with all numbers and of all years with those at the edges, against the days of all texts.
func TestParseNumbers(t *testing.T) { // P6.1
	day := numbers()
	for _, year := range []int{0, 1, 4, 100, 400, 1900, 2000, 2023, 2024, 9996, 9999} {
		for n := range 100 * 100 {
			s := fmt.Sprintf("%04d-%02d-%02d", year, n/100, n%100)
			if got := parse(s); got != want(day, s) {
				t.Fatalf("Parse(%q) = %v, want %v", s, got, want(day, s))
			}
		}
	}
	for year := range 10000 {
		for _, end := range []string{"00-01", "01-00", "01-01", "01-31", "01-32", "02-28", "02-29", "02-30", "04-30", "04-31", "12-31", "12-32", "13-01"} {
			s := fmt.Sprintf("%04d-%s", year, end)
			if got := parse(s); got != want(day, s) {
				t.Fatalf("Parse(%q) = %v, want %v", s, got, want(day, s))
			}
		}
	}
}

// changed calls f with a text, and with such as have a byte left out, told twice, or each byte and each stray laid in its place, or put ahead of it.
func changed(s string, f func(s string)) {
	f(s)
	in := strays()
	for b := range 256 {
		in = append(in, string([]byte{byte(b)}))
	}
	for i := range len(s) + 1 {
		f(s[:i])
		f(s[i:])
		for _, x := range in {
			f(s[:i] + x + s[i:])
			if i < len(s) {
				f(s[:i] + x + s[i+1:])
			}
			// A stray of several bytes may keep the text's length.
			if i+len(x) <= len(s) {
				f(s[:i] + x + s[i+len(x):])
			}
		}
		if i < len(s) {
			f(s[:i] + s[i+1:])
			f(s[:i+1] + s[i:])
		}
	}
}

// TestParseChanged holds texts with a stray in each place against a pattern; what is read is the text of what it is read as.
func TestParseChanged(t *testing.T) { // P6.1
	day := numbers()
	for _, s := range []string{"0001-01-01", "2000-02-29", "1900-02-28", "2023-11-30", "0999-10-09", "9999-12-31", "1900-02-29", "0000-00-00", "2000-13-01", "2000-2-29", ""} {
		changed(s, func(s string) {
			got := parse(s)
			if got != want(day, s) {
				t.Errorf("Parse(%q) = %v, want %v", s, got, want(day, s))
			}
			if text := datetext.Text(got.n); got.e == api.OK && text != s {
				t.Errorf("Text(%d) = %q, want %q", got.n, text, s)
			}
		})
	}
}

// bothSpans are texts of spans, each of which is the text of that one, and read as it.
func bothSpans() map[string]api.Span {
	return map[string]api.Span{
		// one day
		"2000-01-01..2000-01-01": span(730120, 730121),
		"2000-02-29..2000-02-29": span(730179, 730180),
		"0001-01-01..0001-01-01": span(1, 2),
		"9999-12-30..9999-12-30": span(3652058, 3652059),
		"9999-12-31..9999-12-31": span(3652059, 3652060),
		// the last one is the one behind the first one
		"0001-01-01..0001-01-02": span(1, 3),
		"2000-02-28..2000-02-29": span(730178, 730180),
		"2000-02-29..2000-03-01": span(730179, 730181),
		"2023-12-31..2024-01-01": span(738885, 738887),
		"9999-12-30..9999-12-31": span(3652058, 3652060),
		// months, years
		"2024-02-01..2024-02-29": span(738917, 738946),
		"0001-01-01..0001-12-31": span(1, 366),
		"0009-12-31..0010-01-01": span(3287, 3289),
		"0099-12-31..0100-01-01": span(36159, 36161),
		"0999-12-31..1000-01-01": span(364877, 364879),
		"9999-01-01..9999-12-31": span(3651695, api.End),
		"2000-02-29..9999-12-31": span(730179, api.End),
		"0001-01-01..9999-12-30": span(1, api.LastDay),
		// all days
		"0001-01-01..9999-12-31": span(api.FirstDay, api.End),
	}
}

func TestSpan(t *testing.T) { // P6.2
	for s, x := range bothSpans() {
		if got := datetext.Span(x); got != s {
			t.Errorf("Span(%v) = %q, want %q", x, got, s)
		}
	}
}

// TestSpanNone: a span that is empty, or has what is no day, has no text.
func TestSpanNone(t *testing.T) { // P6.2
	l := []api.Span{{}}
	for _, n := range noDays() {
		// From is no day: To is End, a day, another number, or as far off.
		for _, to := range []int{1, 2, 730179, api.LastDay, api.End, api.End + 1, n, n + 1, n + 2, n - 1, most, least, least + 1} {
			l = append(l, span(n, to))
		}
		// To is no day.
		for _, from := range []int{1, 2, 730179, api.LastDay} {
			if n != api.End {
				l = append(l, span(from, n))
			}
		}
	}
	// To is not above From.
	for _, n := range []int{1, 2, 3, 365, 730179, api.LastDay - 1, api.LastDay, api.End} {
		l = append(l, span(n, n), span(n, n-1), span(n, n-2), span(n, 1), span(n, 0), span(n, -n), span(n, least), span(n, least+1), span(n, api.End+1), span(n, most))
	}
	l = append(l, span(api.End, api.End), span(api.End, api.End+1), span(0, 1), span(0, api.End), span(api.LastDay, api.End+1), span(api.FirstDay, api.End+1))
	for _, x := range l {
		if got := datetext.Span(x); got != "" {
			t.Errorf("Span(%v) = %q", x, got)
		}
	}
}

func TestParseSpan(t *testing.T) { // P6.2
	for s, x := range bothSpans() {
		if got := parseSpan(s); got != (days{x: x}) {
			t.Errorf("ParseSpan(%q) = %v, want %v", s, got, x)
		}
	}
}

func TestParseSpanForm(t *testing.T) { // P6.2
	const a, b = "2000-02-28", "2000-02-29"
	for _, s := range []string{
		"", ".", "..", "...", "....", a, a + b, a + ".", "." + a, a + "..", ".." + a, a + "...", "...." + a, a + "." + b, a + "..." + b, a + "...." + b, "." + a + ".." + b, ".." + a + ".." + b, a + ".." + b + ".", a + ".." + b + "..", a + ".." + b + ".." + b, a + "..." + b[1:], a + ".." + ".." + b,
		// other marks between
		a + "--" + b, a + "-" + b, a + "/" + b, a + "//" + b, a + ",," + b, a + "::" + b, a + "  " + b, a + ".-" + b, a + "-." + b, a + ". ." + b, a + " .. " + b, a + ".. " + b, a + " .." + b, a + ".\n" + b, a + "\u2025" + b, a + "\u2024\u2024" + b, a + "\u2026" + b, a + "\u2013" + b, a + "\xff\xff" + b, a + "\x00\x00" + b,
		// parts that are no such texts
		"2000-2-28.." + b, a + "..2000-2-29", "200-02-28.." + b, a + "..200-02-29", "2000-02-8.." + b, a + "..2000-02-9", "02000-02-28.." + b, a + "..02000-02-29", a + "0.." + b, a + ".." + b + "0", "+" + a + ".." + b, "-" + a + ".." + b, a + "..-" + b, a + "..+" + b,
		" " + a + ".." + b, a + ".." + b + " ", a + ".." + b + "\n", "\n" + a + ".." + b, a + ".." + b + "\x00", "2000.02.28..2000.02.29", "2000..02-28.." + b, "20000228..20000229", "x..y", "2000-02-2a.." + b, a + "..2000-02-2a", "\u0662000-02-28.." + b, a + "..\u066200-02-29", a + "..2000-02-2\xff", "\xff000-02-28.." + b,
		strings.Repeat(".", 1<<16), strings.Repeat(a+"..", 1000) + b, strings.Repeat("0", 1<<16),
	} {
		if got := parseSpan(s); got != badSpan(api.ErrForm) {
			t.Errorf("ParseSpan(%q) = %v", s, got)
		}
	}
}

// TestParseSpanFirst: of a text whose one part is no such text and the other one no date, the form is told.
func TestParseSpanFirst(t *testing.T) { // P6.2
	noForm := []string{"", ".", "2000-2-29", "2000-02-2", "02000-02-29", " 2000-02-29", "2000-02-29 ", "-2000-02-29", "2000/02/29", "abcd-ef-gh", "2000-02-2\xff", "\u066200-02-29", "0000-0-00", "2000-13-1"}
	noDate := []string{"1900-02-29", "0000-00-00", "0000-01-01", "2000-00-01", "2000-13-01", "2000-01-00", "2000-04-31", "9999-99-99"}
	for _, x := range noForm {
		for _, y := range slices.Concat(noDate, noForm) {
			for _, s := range []string{x + ".." + y, y + ".." + x} {
				if got := parseSpan(s); got != badSpan(api.ErrForm) {
					t.Errorf("ParseSpan(%q) = %v", s, got)
				}
			}
		}
	}
	for _, x := range noDate {
		for _, y := range slices.Concat(noDate, []string{"0001-01-01", "2000-02-29", "9999-12-31"}) {
			for _, s := range []string{x + ".." + y, y + ".." + x} {
				if got := parseSpan(s); got != badSpan(api.ErrSpan) {
					t.Errorf("ParseSpan(%q) = %v", s, got)
				}
			}
		}
	}
}

// TestParseSpanAhead: the last day may be the first one, not ahead of it.
func TestParseSpanAhead(t *testing.T) { // P6.2
	for _, s := range []string{
		"0001-01-02..0001-01-01", "2000-01-02..2000-01-01", "2000-03-01..2000-02-29", "2000-02-01..2000-01-31", "2024-01-01..2023-12-31", "2000-12-01..2000-11-30",
		"9999-12-31..9999-12-30", "9999-12-31..0001-01-01", "1000-01-01..0999-12-31", "2000-02-28..1999-03-01", "2000-02-01..1999-12-31", "0010-01-01..0009-01-01",
	} {
		if got := parseSpan(s); got != badSpan(api.ErrSpan) {
			t.Errorf("ParseSpan(%q) = %v", s, got)
		}
	}
}

// holdSpan holds a span of days, its text, and what that one is read as.
func holdSpan(t *testing.T, text []string, x api.Span) {
	t.Helper()
	s := text[x.From] + ".." + text[x.To-1]
	if got := datetext.Span(x); got != s {
		t.Fatalf("Span(%v) = %q, want %q", x, got, s)
	}
	if got := parseSpan(s); got != (days{x: x}) {
		t.Fatalf("ParseSpan(%q) = %v, want %v", s, got, x)
	}
}

// TestAllSpans: each span of some lengths, from each of many days on, has its text, which is read as that span; turned about it is refused.
func TestAllSpans(t *testing.T) { // P6.2
	text := texts()
	for from := api.FirstDay; from <= api.LastDay; from += 29 {
		for _, length := range []int{1, 2, 31, 366, 36525, api.End - from} {
			if from+length <= api.End {
				holdSpan(t, text, span(from, from+length))
			}
		}
	}
	for to := api.FirstDay + 1; to <= api.End; to += 31 {
		holdSpan(t, text, span(api.FirstDay, to))
		if s := text[to-1] + ".." + text[api.FirstDay]; to > api.FirstDay+1 && parseSpan(s) != badSpan(api.ErrSpan) {
			t.Fatalf("ParseSpan(%q) = %v", s, parseSpan(s))
		}
	}
	for day := api.LastDay - 400; day < api.LastDay; day++ {
		holdSpan(t, text, span(day, api.End))
		if s := text[day+1] + ".." + text[day]; parseSpan(s) != badSpan(api.ErrSpan) {
			t.Fatalf("ParseSpan(%q) = %v", s, parseSpan(s))
		}
	}
}

// TestParseSpanChanged holds texts with a stray in each place against a pattern; what is read is the text of what it is read as.
func TestParseSpanChanged(t *testing.T) { // P6.2
	day := numbers()
	for _, s := range []string{
		"0001-01-01..9999-12-31", "2000-01-01..2000-01-01", "2000-02-29..2000-03-01", "9999-12-31..9999-12-31", "1900-02-29..2000-02-29",
		"2000-02-29..1900-02-28", "2000-02-29..2000-02-30", "2000-02-29..2000-2-29", "0000-00-00..0000-00-00", "2000-01-01...2000-01-02", "",
	} {
		changed(s, func(s string) {
			got := parseSpan(s)
			if got != wantSpan(day, s) {
				t.Errorf("ParseSpan(%q) = %v, want %v", s, got, wantSpan(day, s))
			}
			if text := datetext.Span(got.x); got.e == api.OK && text != s {
				t.Errorf("Span(%v) = %q, want %q", got.x, text, s)
			}
		})
	}
}
