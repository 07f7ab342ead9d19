package refine_test

import (
	"errors"
	"fmt"
	"math"
	"math/rand"
	"slices"
	"strconv"
	"strings"
	"testing"

	"corrody/api"
	"corrody/refine"
	"corrody/timeline"
)

const (
	most  = math.MaxInt
	least = math.MinInt
	first = api.FirstDay
	last  = api.LastDay
	end   = api.End

	// A day amidst.
	far = api.FirstDay + api.MaxItems
)

// span is a span of its two numbers.
func span(from, to int) api.Span { return api.Span{From: from, To: to} }

// all are all days.
func all() api.Span { return span(first, end) }

// of are the spans from each number on, below the one behind it.
func of(bounds ...int) []api.Span {
	var l []api.Span
	for i := 0; i < len(bounds); i += 2 {
		l = append(l, span(bounds[i], bounds[i+1]))
	}
	return l
}

// steps are spans side by side: from the first day on to each one behind it.
func steps(days ...int) []api.Span {
	var l []api.Span
	for i := range days[1:] {
		l = append(l, span(days[i], days[i+1]))
	}
	return l
}

// part is a part of its values.
func part[V comparable](from, to int, values ...V) api.Part[V] {
	return api.Part[V]{From: from, To: to, V: values}
}

// refused are spans that may not be.
func refused() []api.Span {
	return []api.Span{
		// From is below FirstDay.
		span(0, 1), span(0, 2), span(0, 5), span(0, end), span(-1, 5), span(-7, -3), span(-1, end), span(least, 5), span(least, end), span(least, least+1),
		// To is beyond End.
		span(1, end+1), span(5, end+1), span(last, end+1), span(end, end+1), span(end+1, end+2), span(end, most), span(1, most), span(last, most), span(most-1, most),
		// Both.
		span(0, end+1), span(-1, end+7), span(least, most),
		// Empty.
		span(0, 0), span(1, 1), span(5, 5), span(far, far), span(last, last), span(end, end), span(end+1, end+1), span(-3, -3), span(least, least), span(most, most),
		// Backwards.
		span(1, 0), span(2, 1), span(5, 4), span(9, 1), span(last, 1), span(end, 1), span(end, last), span(1, -1), span(5, least), span(most, 5), span(most, 1), span(most, end), span(1, least), span(most, least), span(end+1, end),
	}
}

// some are spans that may be.
func some() []api.Span {
	return []api.Span{all(), span(1, 2), span(1, 3), span(2, 3), span(1, 10), span(4, 6), span(5, 9), span(last, end), span(last-1, end), span(last-1, last), span(2, last), span(far-1, far+1), span(far, far+1), span(1, last), span(2, end)}
}

// put is a span that is given a value.
type put[V comparable] struct {
	from, to int
	v        V
}

// line is a timeline, and all that was put to it.
type line[V comparable] struct {
	is   *timeline.Timeline[V]
	puts []put[V]
}

// filled is a timeline to which was put.
func filled[V comparable](puts ...put[V]) line[V] {
	x := line[V]{is: timeline.New[V]()}
	for _, p := range puts {
		x.put(p)
	}
	return x
}

func (x *line[V]) put(p put[V]) {
	if e := x.is.Put(span(p.from, p.to), p.v); e != api.OK {
		panic(fmt.Sprint("put ", p, ": ", e))
	}
	x.puts = append(x.puts, p)
}

// unmade are timelines that are not there, or were not made.
func unmade[V comparable]() []line[V] {
	return []line[V]{{}, {is: &timeline.Timeline[V]{}}}
}

// at is a day's value: what was put there last.
func (x line[V]) at(day int) V {
	for _, p := range slices.Backward(x.puts) {
		if p.from <= day && day < p.to {
			return p.v
		}
	}
	var zero V
	return zero
}

// days are the days from FirstDay to End among some, rising, each once, and those two.
func days(l ...int) []int {
	l = append(l, first, end)
	slices.Sort(l)
	return slices.DeleteFunc(slices.Compact(l), func(day int) bool { return day < first || day > end })
}

// bounds are the days at which what was put to some timelines begins or ends, and those beside them.
func bounds[V comparable](lines ...line[V]) []int {
	var l []int
	for _, x := range lines {
		for _, p := range x.puts {
			l = append(l, p.from-1, p.from, p.from+1, p.to-1, p.to, p.to+1)
		}
	}
	return days(l...)
}

// timelines are those of lines, as they are handed in.
func timelines[V comparable](lines []line[V]) []*timeline.Timeline[V] {
	var l []*timeline.Timeline[V]
	for _, x := range lines {
		l = append(l, x.is)
	}
	return l
}

// row are the values of some lines on a day.
func row[V comparable](lines []line[V], day int) []V {
	var l []V
	for _, x := range lines {
		l = append(l, x.at(day))
	}
	return l
}

// parts are the common parts of some lines: the span is cut where a row is another one than that of the day ahead.
func parts[V comparable](s api.Span, lines ...line[V]) []api.Part[V] {
	l := []api.Part[V]{{From: s.From, V: row(lines, s.From)}}
	for _, day := range bounds(lines...) {
		if s.From < day && day < s.To && !slices.Equal(row(lines, day), row(lines, day-1)) {
			l[len(l)-1].To = day
			l = append(l, api.Part[V]{From: day, V: row(lines, day)})
		}
	}
	l[len(l)-1].To = s.To
	return l
}

// unlike are the days of a span on which two lines are unlike.
func unlike[V comparable](s api.Span, a, b line[V]) []api.Span {
	var l []api.Span
	for _, x := range parts(s, a, b) {
		if x.V[0] == x.V[1] {
			continue
		}
		if n := len(l); n > 0 && l[n-1].To == x.From {
			l[n-1].To = x.To
		} else {
			l = append(l, span(x.From, x.To))
		}
	}
	return l
}

// equal is whether two lists of parts are the same.
func equal[V comparable](a, b []api.Part[V]) bool {
	return slices.EqualFunc(a, b, func(x, y api.Part[V]) bool {
		return x.From == y.From && x.To == y.To && slices.Equal(x.V, y.V)
	})
}

// unchanged holds lines against what was put to them, behind calls to which they were handed.
func unchanged[V comparable](t *testing.T, lines ...line[V]) {
	t.Helper()
	var zero V
	for _, x := range lines {
		if e := x.is.Put(span(1, 1), zero); (e == api.ErrNil) != (x.is == nil || x.puts == nil && len(x.is.Segs(all())) == 0) {
			t.Fatalf("put of none to %v: %d", x.puts, e)
		}
		if l := x.is.Segs(all()); len(l) > 0 {
			told(t, x.is, x.at, bounds(x), "of ", x.puts)
		} else if len(x.puts) > 0 {
			t.Fatalf("%v are gone", x.puts)
		}
	}
}

// told holds all days of a timeline against what they should be, which may change at some days alone.
func told[V comparable](t *testing.T, got *timeline.Timeline[V], at func(day int) V, ends []int, what ...any) {
	t.Helper()
	if got == nil {
		t.Fatal(fmt.Sprint(what...), ": none")
	}
	var zero V
	want := []api.Seg[V]{{From: first, V: at(first)}}
	for _, day := range ends {
		if first < day && day < end && at(day) != at(day-1) {
			want[len(want)-1].To = day
			want = append(want, api.Seg[V]{From: day, V: at(day)})
		}
	}
	want[len(want)-1].To = end
	if l := got.Segs(all()); !slices.Equal(l, want) {
		t.Fatalf("%s: %v, not %v", fmt.Sprint(what...), l, want)
	}
	count := 0
	for _, x := range want {
		if x.V != zero {
			count++
		}
	}
	if got.Pieces() != count {
		t.Fatalf("%s: %d pieces, not %d", fmt.Sprint(what...), got.Pieces(), count)
	}
	for _, day := range ends {
		if v := got.At(day); day < end && v != at(day) {
			t.Fatalf("%s, at %d: %v, not %v", fmt.Sprint(what...), day, v, at(day))
		}
	}
}

// holdParts holds the parts of some lines over a span against what was put.
func holdParts[V comparable](t *testing.T, s api.Span, lines ...line[V]) {
	t.Helper()
	if l, want := refine.Parts(s, timelines(lines)...), parts(s, lines...); !equal(l, want) {
		t.Fatalf("parts %v of %v: %v, not %v", s, lines, l, want)
	}
}

// holdDiffer holds the days of a span on which two lines are unlike against what was put, both ways round.
func holdDiffer[V comparable](t *testing.T, s api.Span, a, b line[V]) {
	t.Helper()
	want := unlike(s, a, b)
	if l := refine.Differ(a.is, b.is, s); !slices.Equal(l, want) {
		t.Fatalf("differ %v of %v, %v: %v, not %v", s, a.puts, b.puts, l, want)
	}
	if l := refine.Differ(b.is, a.is, s); !slices.Equal(l, want) {
		t.Fatalf("differ %v of %v, %v: %v, not %v", s, b.puts, a.puts, l, want)
	}
	if s == all() && timeline.Same(a.is, b.is) != (len(want) == 0) {
		t.Fatalf("differ of %v, %v: %v, but same says otherwise", a.puts, b.puts, want)
	}
}

// moved is what a line's days are, if it is moved, and the days at which that may change.
func moved[V comparable](x line[V], by int) (func(day int) V, []int) {
	if by < -end || by > end {
		return line[V]{}.at, days()
	}
	var l []int
	for _, day := range bounds(x) {
		l = append(l, day, day+by)
	}
	return func(day int) V {
		var zero V
		if day-by < first || day-by > last {
			return zero
		}
		return x.at(day - by)
	}, days(l...)
}

// holdMoved holds a line that is moved against what was put.
func holdMoved[V comparable](t *testing.T, x line[V], by int) {
	t.Helper()
	at, ends := moved(x, by)
	told(t, refine.Moved(x.is, by), at, ends, x.puts, " moved by ", by)
}

// holdMap holds what is made of a line against what was put.
func holdMap[V, W comparable](t *testing.T, x line[V], f func(v V) W) {
	t.Helper()
	told(t, refine.Map(x.is, f), func(day int) W { return f(x.at(day)) }, bounds(x), "map of ", x.puts)
}

// between are all spans between some days.
func between(days []int) []api.Span {
	var l []api.Span
	for i, from := range days {
		for _, to := range days[i+1:] {
			l = append(l, span(from, to))
		}
	}
	return l
}

// holdAll holds the parts of some lines over each span between the days at which something was put to them, and all of which two are unlike.
func holdAll[V comparable](t *testing.T, lines ...line[V]) {
	t.Helper()
	for _, s := range between(bounds(lines...)) {
		holdParts(t, s, lines...)
		for i := range lines {
			for j := range lines {
				holdDiffer(t, s, lines[i], lines[j])
			}
		}
	}
	unchanged(t, lines...)
}

// P12.1
func TestPartsOfNone(t *testing.T) {
	for _, s := range some() {
		for i, l := range [][]*timeline.Timeline[int]{nil, {}} {
			got := refine.Parts(s, l...)
			if len(got) != 1 || got[0].From != s.From || got[0].To != s.To || len(got[0].V) != 0 {
				t.Errorf("%d, over %v: %v", i, s, got)
			}
		}
		if got := refine.Parts[string](s); !equal(got, []api.Part[string]{part[string](s.From, s.To)}) {
			t.Errorf("over %v: %v", s, got)
		}
	}
}

// P12.1: of one timeline they are its segments.
func TestPartsOfOne(t *testing.T) {
	x := filled(put[int]{1, 2, 4}, put[int]{3, 7, 5}, put[int]{7, 9, 6}, put[int]{12, 15, 5}, put[int]{last - 1, end, 8})
	for _, c := range []struct {
		s    api.Span
		want []api.Part[int]
	}{
		{span(1, 10), []api.Part[int]{part(1, 2, 4), part(2, 3, 0), part(3, 7, 5), part(7, 9, 6), part(9, 10, 0)}},
		// Inside a piece.
		{span(4, 6), []api.Part[int]{part(4, 6, 5)}},
		{span(4, 5), []api.Part[int]{part(4, 5, 5)}},
		// From inside one to inside another one.
		{span(4, 8), []api.Part[int]{part(4, 7, 5), part(7, 8, 6)}},
		{span(8, 13), []api.Part[int]{part(8, 9, 6), part(9, 12, 0), part(12, 13, 5)}},
		// From a begin, to an end.
		{span(3, 7), []api.Part[int]{part(3, 7, 5)}},
		{span(3, 9), []api.Part[int]{part(3, 7, 5), part(7, 9, 6)}},
		{span(7, 9), []api.Part[int]{part(7, 9, 6)}},
		{span(3, 8), []api.Part[int]{part(3, 7, 5), part(7, 8, 6)}},
		{span(4, 7), []api.Part[int]{part(4, 7, 5)}},
		// Between pieces.
		{span(9, 12), []api.Part[int]{part(9, 12, 0)}},
		{span(10, 11), []api.Part[int]{part(10, 11, 0)}},
		{span(10, 13), []api.Part[int]{part(10, 12, 0), part(12, 13, 5)}},
		{span(8, 11), []api.Part[int]{part(8, 9, 6), part(9, 11, 0)}},
		// One day.
		{span(1, 2), []api.Part[int]{part(1, 2, 4)}},
		{span(2, 3), []api.Part[int]{part(2, 3, 0)}},
		{span(last, end), []api.Part[int]{part(last, end, 8)}},
		// At FirstDay, at End, all days.
		{span(1, 4), []api.Part[int]{part(1, 2, 4), part(2, 3, 0), part(3, 4, 5)}},
		{span(15, end), []api.Part[int]{part(15, last-1, 0), part(last-1, end, 8)}},
		{span(14, last), []api.Part[int]{part(14, 15, 5), part(15, last-1, 0), part(last-1, last, 8)}},
		{all(), []api.Part[int]{part(1, 2, 4), part(2, 3, 0), part(3, 7, 5), part(7, 9, 6), part(9, 12, 0), part(12, 15, 5), part(15, last-1, 0), part(last-1, end, 8)}},
	} {
		if l := refine.Parts(c.s, x.is); !equal(l, c.want) {
			t.Errorf("over %v: %v, not %v", c.s, l, c.want)
		}
	}
	for _, s := range between(bounds(x)) {
		var l []api.Part[int]
		for _, seg := range x.is.Segs(s) {
			l = append(l, part(seg.From, seg.To, seg.V))
		}
		if got := refine.Parts(s, x.is); !equal(got, l) {
			t.Errorf("over %v: %v, but segments %v", s, got, l)
		}
	}
	holdAll(t, x)
}

// puts are what is put to one timeline.
func puts(steps ...int) []put[int] {
	var l []put[int]
	for i := 0; i < len(steps); i += 3 {
		l = append(l, put[int]{steps[i], steps[i+1], steps[i+2]})
	}
	return l
}

// P12.1
func TestPartsOfSeveral(t *testing.T) {
	for _, c := range []struct {
		what  string
		s     api.Span
		lines [][]put[int]
		want  []api.Part[int]
	}{
		{"one over the other's end", span(1, 6), [][]put[int]{puts(2, 4, 5), puts(3, 6, 7)}, []api.Part[int]{part(1, 2, 0, 0), part(2, 3, 5, 0), part(3, 4, 5, 7), part(4, 6, 0, 7)}},
		{"the other way round", span(1, 6), [][]put[int]{puts(3, 6, 7), puts(2, 4, 5)}, []api.Part[int]{part(1, 2, 0, 0), part(2, 3, 0, 5), part(3, 4, 7, 5), part(4, 6, 7, 0)}},
		{"both as at first", span(1, 6), [][]put[int]{nil, nil}, []api.Part[int]{part(1, 6, 0, 0)}},
		{"one as at first", span(1, 6), [][]put[int]{nil, puts(2, 4, 5)}, []api.Part[int]{part(1, 2, 0, 0), part(2, 4, 0, 5), part(4, 6, 0, 0)}},
		{"the other as at first", span(1, 6), [][]put[int]{puts(2, 4, 5), nil}, []api.Part[int]{part(1, 2, 0, 0), part(2, 4, 5, 0), part(4, 6, 0, 0)}},
		{"the same by other puts", span(1, 6), [][]put[int]{puts(2, 4, 5), puts(3, 4, 5, 2, 3, 5)}, []api.Part[int]{part(1, 2, 0, 0), part(2, 4, 5, 5), part(4, 6, 0, 0)}},
		{"the same days, unlike values", span(1, 6), [][]put[int]{puts(2, 4, 5), puts(2, 4, 6)}, []api.Part[int]{part(1, 2, 0, 0), part(2, 4, 5, 6), part(4, 6, 0, 0)}},
		{"both change on a day", span(1, 9), [][]put[int]{puts(2, 5, 5), puts(5, 8, 6)}, []api.Part[int]{part(1, 2, 0, 0), part(2, 5, 5, 0), part(5, 8, 0, 6), part(8, 9, 0, 0)}},
		{"both change on a day to each other's value", span(1, 9), [][]put[int]{puts(2, 5, 5, 5, 8, 6), puts(2, 5, 6, 5, 8, 5)}, []api.Part[int]{part(1, 2, 0, 0), part(2, 5, 5, 6), part(5, 8, 6, 5), part(8, 9, 0, 0)}},
		{"on neighbouring days", span(1, 9), [][]put[int]{puts(2, 5, 5), puts(3, 6, 6)}, []api.Part[int]{part(1, 2, 0, 0), part(2, 3, 5, 0), part(3, 5, 5, 6), part(5, 6, 0, 6), part(6, 9, 0, 0)}},
		{"one after the other", span(1, 20), [][]put[int]{puts(2, 5, 5), puts(10, 15, 6)}, []api.Part[int]{part(1, 2, 0, 0), part(2, 5, 5, 0), part(5, 10, 0, 0), part(10, 15, 0, 6), part(15, 20, 0, 0)}},
		{"one inside the other", span(1, 9), [][]put[int]{puts(2, 8, 5), puts(4, 6, 6)}, []api.Part[int]{part(1, 2, 0, 0), part(2, 4, 5, 0), part(4, 6, 5, 6), part(6, 8, 5, 0), part(8, 9, 0, 0)}},
		{"one's value where the other's was", span(1, 9), [][]put[int]{puts(2, 5, 5), puts(5, 8, 5)}, []api.Part[int]{part(1, 2, 0, 0), part(2, 5, 5, 0), part(5, 8, 0, 5), part(8, 9, 0, 0)}},
		{"every day", span(1, 6), [][]put[int]{puts(1, 2, 1, 2, 3, 2, 3, 4, 3, 4, 5, 4, 5, 6, 5), nil}, []api.Part[int]{part(1, 2, 1, 0), part(2, 3, 2, 0), part(3, 4, 3, 0), part(4, 5, 4, 0), part(5, 6, 5, 0)}},
		{"every second day each", span(1, 6), [][]put[int]{puts(2, 4, 1, 4, 6, 2), puts(1, 3, 1, 3, 5, 2)}, []api.Part[int]{part(1, 2, 0, 1), part(2, 3, 1, 1), part(3, 4, 1, 2), part(4, 5, 2, 2), part(5, 6, 2, 0)}},
		{"from inside both", span(3, 9), [][]put[int]{puts(2, 5, 5), puts(1, 6, 6)}, []api.Part[int]{part(3, 5, 5, 6), part(5, 6, 0, 6), part(6, 9, 0, 0)}},
		{"to inside both", span(1, 4), [][]put[int]{puts(2, 5, 5), puts(3, 6, 6)}, []api.Part[int]{part(1, 2, 0, 0), part(2, 3, 5, 0), part(3, 4, 5, 6)}},
		{"inside both", span(3, 5), [][]put[int]{puts(2, 5, 5), puts(3, 6, 6)}, []api.Part[int]{part(3, 5, 5, 6)}},
		{"a day inside both", span(3, 4), [][]put[int]{puts(2, 5, 5), puts(3, 6, 6)}, []api.Part[int]{part(3, 4, 5, 6)}},
		{"from where both begin to where both end", span(2, 5), [][]put[int]{puts(2, 5, 5), puts(2, 5, 6)}, []api.Part[int]{part(2, 5, 5, 6)}},
		{"from where one ends", span(5, 9), [][]put[int]{puts(2, 5, 5), puts(3, 6, 6)}, []api.Part[int]{part(5, 6, 0, 6), part(6, 9, 0, 0)}},
		{"to where one begins", span(1, 3), [][]put[int]{puts(2, 5, 5), puts(3, 6, 6)}, []api.Part[int]{part(1, 2, 0, 0), part(2, 3, 5, 0)}},
		{"between pieces of both", span(7, 9), [][]put[int]{puts(2, 5, 5, 9, 12, 5), puts(3, 7, 6, 10, 11, 6)}, []api.Part[int]{part(7, 9, 0, 0)}},
		{"all days", all(), [][]put[int]{puts(1, 3, 5), puts(last, end, 6)}, []api.Part[int]{part(1, 3, 5, 0), part(3, last, 0, 0), part(last, end, 0, 6)}},
		{"all days, put everywhere", all(), [][]put[int]{puts(1, end, 5), puts(1, end, 6)}, []api.Part[int]{part(1, end, 5, 6)}},
		{"all days, one put everywhere", all(), [][]put[int]{puts(1, end, 5), puts(far, far+1, 6)}, []api.Part[int]{part(1, far, 5, 0), part(far, far+1, 5, 6), part(far+1, end, 5, 0)}},
		{"FirstDay", span(1, 2), [][]put[int]{puts(1, 3, 5), puts(1, 2, 6)}, []api.Part[int]{part(1, 2, 5, 6)}},
		{"LastDay", span(last, end), [][]put[int]{puts(last, end, 5), puts(last-1, end, 6)}, []api.Part[int]{part(last, end, 5, 6)}},
		{"the last two days", span(last-1, end), [][]put[int]{puts(last, end, 5), puts(last-1, end, 6)}, []api.Part[int]{part(last-1, last, 0, 6), part(last, end, 5, 6)}},
		{"three", span(1, 9), [][]put[int]{puts(2, 5, 1), puts(3, 6, 2), puts(4, 7, 3)}, []api.Part[int]{part(1, 2, 0, 0, 0), part(2, 3, 1, 0, 0), part(3, 4, 1, 2, 0), part(4, 5, 1, 2, 3), part(5, 6, 0, 2, 3), part(6, 7, 0, 0, 3), part(7, 9, 0, 0, 0)}},
		{"five, one changes on each day, two at last", span(1, 7), [][]put[int]{puts(2, 7, 1), puts(3, 7, 1), puts(4, 7, 1), puts(5, 6, 1), puts(6, 7, 1)}, []api.Part[int]{part(1, 2, 0, 0, 0, 0, 0), part(2, 3, 1, 0, 0, 0, 0), part(3, 4, 1, 1, 0, 0, 0), part(4, 5, 1, 1, 1, 0, 0), part(5, 6, 1, 1, 1, 1, 0), part(6, 7, 1, 1, 1, 0, 1)}},
		{"values of the end of all numbers", span(1, 6), [][]put[int]{puts(2, 4, most), puts(3, 5, least)}, []api.Part[int]{part(1, 2, 0, 0), part(2, 3, most, 0), part(3, 4, most, least), part(4, 5, 0, least), part(5, 6, 0, 0)}},
	} {
		var lines []line[int]
		for _, l := range c.lines {
			lines = append(lines, filled(l...))
		}
		if l := refine.Parts(c.s, timelines(lines)...); !equal(l, c.want) {
			t.Errorf("%s: %v, not %v", c.what, l, c.want)
		}
		holdAll(t, lines...)
	}
}

// P12.1: one timeline twice, and thrice, among others.
func TestPartsOfOneTwice(t *testing.T) {
	x, y := filled(puts(2, 4, 5, 4, 6, 6, 9, end, 7)...), filled(puts(1, 3, 2, last, end, 3)...)
	for _, s := range between(bounds(x, y)) {
		holdParts(t, s, x, x)
		holdParts(t, s, x, y, x)
		holdParts(t, s, x, x, y, x, y)
	}
	unchanged(t, x, y)
	want := []api.Part[int]{part(1, 2, 0, 0), part(2, 4, 5, 5), part(4, 6, 6, 6), part(6, 9, 0, 0), part(9, end, 7, 7)}
	if l := refine.Parts(all(), x.is, x.is); !equal(l, want) {
		t.Error(l)
	}
}

// P12.1, P12.2, P12.3: timelines that are not there, or were not made, are as one as at first, in each place.
func TestUnmade(t *testing.T) {
	for _, none := range unmade[int]() {
		x, at := filled(puts(2, 4, 5, 7, end, 6)...), filled[int]()
		for _, lines := range [][]line[int]{{none}, {none, none}, {none, at}, {at, none}, {none, x}, {x, none}, {x, none, x}, {none, x, none}, {x, x, none}, {none, at, x, none}} {
			holdAll(t, lines...)
			holdParts(t, all(), lines...)
		}
		if l := refine.Parts(span(5, 6), none.is, x.is, none.is); !equal(l, []api.Part[int]{part(5, 6, 0, 0, 0)}) {
			t.Errorf("%v", l)
		}
		if l := refine.Differ(none.is, x.is, all()); !slices.Equal(l, of(2, 4, 7, end)) {
			t.Errorf("differ: %v", l)
		}
		if l := refine.Differ(x.is, none.is, span(3, 9)); !slices.Equal(l, of(3, 4, 7, 9)) {
			t.Errorf("differ: %v", l)
		}
		if l := refine.Differ(none.is, none.is, all()); len(l) > 0 {
			t.Errorf("differ: %v", l)
		}
		for _, by := range []int{0, 1, -1, 7, last, -last, end, most, least} {
			holdMoved(t, none, by)
			got := line[int]{is: refine.Moved(none.is, by)}
			got.put(put[int]{3, 7, 5})
			unchanged(t, got, none)
		}
		holdMap(t, none, func(v int) int { return v })
		holdMap(t, none, func(v int) int { return v + 3 })
		holdMap(t, none, strconv.Itoa)
		got := line[string]{is: refine.Map(none.is, func(v int) string { return "" })}
		got.put(put[string]{3, 7, "a"})
		unchanged(t, got)
		unchanged(t, none)
	}
}

// P12.1, P12.2: over a span that may not be there is nothing, whatever else is asked.
func TestRefused(t *testing.T) {
	x, y := filled(puts(1, 3, 5, 7, end, 6)...), filled(puts(1, end, 9)...)
	lines := append(unmade[int](), filled[int](), x, y)
	for _, s := range refused() {
		if l := refine.Parts[int](s); len(l) > 0 {
			t.Errorf("parts %v of none: %v", s, l)
		}
		if l := refine.Parts(s, timelines(lines)...); len(l) > 0 {
			t.Errorf("parts %v of all: %v", s, l)
		}
		for _, a := range lines {
			if l := refine.Parts(s, a.is); len(l) > 0 {
				t.Errorf("parts %v of %v: %v", s, a, l)
			}
			for _, b := range lines {
				if l := refine.Parts(s, a.is, b.is); len(l) > 0 {
					t.Errorf("parts %v of %v, %v: %v", s, a, b, l)
				}
				if l := refine.Differ(a.is, b.is, s); len(l) > 0 {
					t.Errorf("differ %v of %v, %v: %v", s, a, b, l)
				}
			}
		}
		for _, ends := range [][]int{nil, {}, {5}, {1, 2, 3}, {s.From, s.To}, {s.From + 1}, {s.To - 1}, {least, most}, {0, end, last, end + 1, -1}} {
			if l := refine.Cut(s, ends); len(l) > 0 {
				t.Errorf("cut %v at %v: %v", s, ends, l)
			}
		}
	}
	unchanged(t, lines...)
}

// P12.1
func TestCut(t *testing.T) {
	for _, c := range []struct {
		s    api.Span
		ends []int
		want []api.Span
	}{
		// At no day.
		{span(3, 9), nil, of(3, 9)},
		{span(3, 9), []int{}, of(3, 9)},
		{all(), nil, of(1, end)},
		{span(1, 2), nil, of(1, 2)},
		{span(last, end), nil, of(last, end)},
		// Inside.
		{span(3, 9), []int{5}, steps(3, 5, 9)},
		{span(3, 9), []int{4}, steps(3, 4, 9)},
		{span(3, 9), []int{8}, steps(3, 8, 9)},
		{span(3, 9), []int{4, 8}, steps(3, 4, 8, 9)},
		{span(3, 9), []int{4, 5, 6, 7, 8}, steps(3, 4, 5, 6, 7, 8, 9)},
		{all(), []int{2, far, last}, steps(1, 2, far, last, end)},
		// In no order, more than once.
		{span(3, 9), []int{8, 4, 6}, steps(3, 4, 6, 8, 9)},
		{span(3, 9), []int{8, 7, 6, 5, 4}, steps(3, 4, 5, 6, 7, 8, 9)},
		{span(3, 9), []int{5, 5}, steps(3, 5, 9)},
		{span(3, 9), []int{7, 5, 7, 5, 5, 7}, steps(3, 5, 7, 9)},
		{span(3, 9), []int{8, 8, 4, 4, 8, 3, 9, 9, 3}, steps(3, 4, 8, 9)},
		// At the first day, at the end, outside.
		{span(3, 9), []int{3}, of(3, 9)},
		{span(3, 9), []int{9}, of(3, 9)},
		{span(3, 9), []int{3, 9}, of(3, 9)},
		{span(3, 9), []int{2}, of(3, 9)},
		{span(3, 9), []int{10}, of(3, 9)},
		{span(3, 9), []int{1, 2, 3, 9, 10, 11}, of(3, 9)},
		{span(3, 9), []int{10, 3, 5, 2, 9, 1}, steps(3, 5, 9)},
		{span(3, 4), []int{2, 3, 4, 5}, of(3, 4)},
		{span(3, 5), []int{2, 3, 4, 5, 6}, steps(3, 4, 5)},
		{all(), []int{0, 1, end, end + 1, -1}, of(1, end)},
		{all(), []int{end, 1, 0, 2, last, end + 1}, steps(1, 2, last, end)},
		{span(1, 2), []int{0, 1, 2, 3}, of(1, 2)},
		{span(last, end), []int{last - 1, last, end, end + 1}, of(last, end)},
		// No days.
		{span(3, 9), []int{least, most}, of(3, 9)},
		{span(3, 9), []int{most, 6, least, 0, -6}, steps(3, 6, 9)},
		{all(), []int{least, least + 1, most - 1, most, -5, far, -far}, steps(1, far, end)},
	} {
		was := slices.Clone(c.ends)
		if l := refine.Cut(c.s, c.ends); !slices.Equal(l, c.want) {
			t.Errorf("cut %v at %v: %v, not %v", c.s, was, l, c.want)
		}
		if !slices.Equal(c.ends, was) {
			t.Errorf("cut %v at %v changed them: %v", c.s, was, c.ends)
		}
	}
}

// P12.1: all spans of some days, cut at all lists of up to three of these and of those beside them.
func TestAllCuts(t *testing.T) {
	const count = 4
	for _, from := range []int{first, far, end - count} {
		var near []int
		for day := from - 1; day <= from+count+1; day++ {
			near = append(near, day)
		}
		lists := [][]int{nil}
		for i := 0; len(lists[i]) < 3; i++ {
			for _, day := range near {
				lists = append(lists, append(slices.Clone(lists[i]), day))
			}
		}
		for _, s := range between(near[1 : count+2]) {
			for _, ends := range lists {
				want := []api.Span{{From: s.From, To: s.From + 1}}
				for day := s.From + 1; day < s.To; day++ {
					if slices.Contains(ends, day) {
						want = append(want, span(day, day))
					}
					want[len(want)-1].To = day + 1
				}
				if l := refine.Cut(s, ends); !slices.Equal(l, want) {
					t.Fatalf("cut %v at %v: %v, not %v", s, ends, l, want)
				}
			}
		}
	}
}

// P12.1: what stands behind the days that are handed in stays, too.
func TestCutLeavesRoom(t *testing.T) {
	room := []int{8, 4, 6, 71, 72, 73, 74}
	for n := range room {
		refine.Cut(span(3, 9), room[:n])
		refine.Cut(all(), room[:n])
		if !slices.Equal(room, []int{8, 4, 6, 71, 72, 73, 74}) {
			t.Fatalf("behind %d: %v", n, room)
		}
	}
}

// P12.1: parts are where their timelines' ends cut.
func TestPartsAreCut(t *testing.T) {
	lines := []line[int]{filled(mixed(1, 20, 0, 1, 2)...), filled(mixed(2, 20, 0, 1, 2)...), filled(mixed(3, 20, 0, 1, 2)...)}
	for _, s := range append(some(), span(700, last-700), span(far-70000, far+70000)) {
		var ends []int
		for _, x := range lines {
			ends = append(ends, x.is.Ends(s)...)
		}
		var l []api.Span
		for _, x := range refine.Parts(s, timelines(lines)...) {
			l = append(l, span(x.From, x.To))
		}
		if cut := refine.Cut(s, ends); !slices.Equal(l, cut) {
			t.Errorf("over %v: %v, cut %v", s, l, cut)
		}
	}
}

// P12.2
func TestDiffer(t *testing.T) {
	for _, c := range []struct {
		what string
		s    api.Span
		a, b []put[int]
		want []api.Span
	}{
		{"both as at first", all(), nil, nil, nil},
		{"put to one", span(1, 10), puts(3, 7, 5), nil, of(3, 7)},
		{"put to both, the same", all(), puts(3, 7, 5), puts(3, 7, 5), nil},
		{"the same by other puts", all(), puts(3, 7, 5, 7, 9, 5), puts(5, 9, 6, 3, 6, 5, 6, 9, 5), nil},
		{"put and taken away", all(), puts(3, 7, 5, 3, 7, 0), nil, nil},
		{"everywhere the same", all(), puts(1, end, 5), puts(1, far, 5, far, end, 5), nil},
		{"on one day", all(), puts(3, 7, 5), puts(3, 7, 5, 4, 5, 6), of(4, 5)},
		{"on one day, that is nought", all(), puts(3, 7, 5), puts(3, 7, 5, 4, 5, 0), of(4, 5)},
		{"on FirstDay", all(), puts(1, 7, 5), puts(2, 7, 5), of(1, 2)},
		{"on LastDay", all(), puts(9, end, 5), puts(9, last, 5), of(last, end)},
		{"on both", all(), puts(1, end, 5), puts(2, last, 5), of(1, 2, last, end)},
		{"everywhere", all(), puts(1, end, 5), nil, of(1, end)},
		{"everywhere, both put", all(), puts(1, end, 5), puts(1, end, -5), of(1, end)},
		{"everywhere, by many values", all(), puts(1, 5, 1, 5, 9, 2, 9, end, 3), puts(1, 4, 2, 4, 6, 3, 6, end, 1), of(1, end)},
		{"at the begin", span(1, 10), puts(3, 7, 5), puts(2, 7, 5), of(2, 3)},
		{"at the end", span(1, 10), puts(3, 7, 5), puts(3, 8, 5), of(7, 8)},
		{"at both", span(1, 10), puts(3, 7, 5), puts(2, 8, 5), of(2, 3, 7, 8)},
		{"moved", span(1, 10), puts(3, 6, 5), puts(4, 7, 5), of(3, 4, 6, 7)},
		{"side by side", span(1, 10), puts(3, 5, 5), puts(5, 8, 6), of(3, 8)},
		{"side by side, of the same value", span(1, 10), puts(3, 5, 5), puts(5, 8, 5), of(3, 8)},
		{"apart", span(1, 10), puts(3, 5, 5), puts(6, 8, 6), of(3, 5, 6, 8)},
		{"by each other's values", span(1, 10), puts(3, 5, 5, 5, 7, 6), puts(3, 5, 6, 5, 7, 5), of(3, 7)},
		{"the values change, unlike all along", span(1, 10), puts(3, 4, 1, 4, 5, 2, 5, 6, 3), puts(3, 4, 3, 4, 5, 1, 5, 6, 2), of(3, 6)},
		{"the values change, alike all along", span(1, 10), puts(3, 4, 1, 4, 5, 2, 5, 6, 3), puts(3, 6, 1, 4, 6, 2, 5, 6, 3), nil},
		{"alike amidst", span(1, 10), puts(2, 9, 5), puts(2, 9, 6, 4, 6, 5), of(2, 4, 6, 9)},
		{"every second day", span(1, 8), puts(1, 2, 1, 3, 4, 1, 5, 6, 1, 7, 8, 1), nil, of(1, 2, 3, 4, 5, 6, 7, 8)},
		{"from inside", span(4, 10), puts(3, 7, 5), nil, of(4, 7)},
		{"to inside", span(1, 5), puts(3, 7, 5), nil, of(3, 5)},
		{"inside", span(4, 6), puts(3, 7, 5), nil, of(4, 6)},
		{"a day inside", span(4, 5), puts(3, 7, 5), nil, of(4, 5)},
		{"just there", span(3, 7), puts(3, 7, 5), nil, of(3, 7)},
		{"ahead", span(1, 3), puts(3, 7, 5), nil, nil},
		{"behind", span(7, 10), puts(3, 7, 5), nil, nil},
		{"FirstDay", span(1, 2), puts(1, 2, 5), nil, of(1, 2)},
		{"FirstDay, not asked", span(2, end), puts(1, 2, 5), nil, nil},
		{"LastDay", span(last, end), puts(last, end, 5), nil, of(last, end)},
		{"LastDay, not asked", span(1, last), puts(last, end, 5), nil, nil},
	} {
		a, b := filled(c.a...), filled(c.b...)
		if l := refine.Differ(a.is, b.is, c.s); !slices.Equal(l, c.want) {
			t.Errorf("%s: %v, not %v", c.what, l, c.want)
		}
		if l := refine.Differ(b.is, a.is, c.s); !slices.Equal(l, c.want) {
			t.Errorf("%s, the other way round: %v, not %v", c.what, l, c.want)
		}
		if l := append(refine.Differ(a.is, a.is, c.s), refine.Differ(b.is, b.is, c.s)...); len(l) > 0 {
			t.Errorf("%s, each by itself: %v", c.what, l)
		}
		holdAll(t, a, b)
	}
}

// P12.3
func TestMoved(t *testing.T) {
	for _, c := range []struct {
		what string
		puts []put[int]
		by   int
		want []put[int]
	}{
		{"by nought", puts(3, 7, 5, 7, 9, 6), 0, puts(3, 7, 5, 7, 9, 6)},
		{"one day on", puts(3, 7, 5, 7, 9, 6), 1, puts(4, 8, 5, 8, 10, 6)},
		{"one day back", puts(3, 7, 5, 7, 9, 6), -1, puts(2, 6, 5, 6, 8, 6)},
		{"to FirstDay", puts(3, 7, 5), -2, puts(1, 5, 5)},
		{"over FirstDay", puts(3, 7, 5), -3, puts(1, 4, 5)},
		{"over FirstDay but for one day", puts(3, 7, 5), -5, puts(1, 2, 5)},
		{"over FirstDay, whole", puts(3, 7, 5), -6, nil},
		{"over FirstDay, one of two", puts(3, 7, 5, 7, 9, 6), -6, puts(1, 3, 6)},
		{"over FirstDay, one of two that are apart", puts(3, 7, 5, 9, 12, 6), -7, puts(2, 5, 6)},
		{"to LastDay", puts(end-9, end-3, 5), 3, puts(end-6, end, 5)},
		{"over LastDay", puts(end-9, end-3, 5), 4, puts(end-5, end, 5)},
		{"over LastDay but for one day", puts(end-9, end-3, 5), 8, puts(last, end, 5)},
		{"over LastDay, whole", puts(end-9, end-3, 5), 9, nil},
		{"over LastDay, one of two", puts(end-9, end-3, 5, end-3, end-1, 6), 4, puts(end-5, end, 5)},
		{"over both ends", puts(1, 4, 5, end-3, end, 6), 2, puts(3, 6, 5, end-1, end, 6)},
		{"over both ends, back", puts(1, 4, 5, end-3, end, 6), -2, puts(1, 2, 5, end-5, end-2, 6)},
		{"all days, one on", puts(1, end, 5), 1, puts(2, end, 5)},
		{"all days, one back", puts(1, end, 5), -1, puts(1, last, 5)},
		{"all days, so many on that one is left", puts(1, end, 5), last - 1, puts(last, end, 5)},
		{"all days, so many back that one is left", puts(1, end, 5), 1 - last, puts(1, 2, 5)},
		{"all days, so many on that none is left", puts(1, end, 5), last, nil},
		{"all days, so many back that none is left", puts(1, end, 5), -last, nil},
		{"all days, by End", puts(1, end, 5), end, nil},
		{"all days, back by End", puts(1, end, 5), -end, nil},
		{"all days, beyond End", puts(1, end, 5), end + 1, nil},
		{"all days, back beyond End", puts(1, end, 5), -end - 1, nil},
		{"by the greatest number", puts(1, end, 5), most, nil},
		{"by the least number", puts(1, end, 5), least, nil},
		{"by nearly the greatest number", puts(1, end, 5), most - end, nil},
		{"by nearly the least number", puts(1, end, 5), least + end, nil},
		{"FirstDay to LastDay", puts(1, 2, 5), last - 1, puts(last, end, 5)},
		{"LastDay to FirstDay", puts(last, end, 5), 1 - last, puts(1, 2, 5)},
		{"nothing", nil, 5, nil},
		{"nothing, back", nil, -5, nil},
		{"nothing, by the greatest number", nil, most, nil},
		{"what was put and taken away", puts(3, 7, 5, 3, 7, 0), 2, nil},
		{"days of nought stay between", puts(3, 9, 5, 5, 6, 0), 2, puts(5, 11, 5, 7, 8, 0)},
		{"far", puts(far-1, far+1, 5), far, puts(2*far-1, 2*far+1, 5)},
	} {
		x, want := filled(c.puts...), filled(c.want...)
		if got := refine.Moved(x.is, c.by); !timeline.Same(got, want.is) || got.Pieces() != want.is.Pieces() {
			t.Errorf("%s: %v, not %v", c.what, got.Segs(all()), want.is.Segs(all()))
		}
		holdMoved(t, x, c.by)
		unchanged(t, x)
	}
}

// P12.3: there and back again all is as it was, but for what was moved over an end of all days.
func TestMovedBack(t *testing.T) {
	x := filled(puts(3, 7, 5, 7, 9, 6, far, far+9, 5, end-9, end-3, 7)...)
	for _, c := range []struct {
		by   int
		puts []put[int]
	}{
		{0, x.puts}, {1, x.puts}, {-1, x.puts}, {3, x.puts}, {-2, x.puts},
		{-3, append(slices.Clone(x.puts), put[int]{3, 4, 0})},
		{-6, append(slices.Clone(x.puts), put[int]{3, 7, 0})},
		{4, append(slices.Clone(x.puts), put[int]{end - 4, end - 3, 0})},
		{9, append(slices.Clone(x.puts), put[int]{end - 9, end - 3, 0})},
		{far, append(slices.Clone(x.puts), put[int]{end - 9, end - 3, 0})},
		{end, nil}, {-end, nil}, {most, nil}, {least + 1, nil},
	} {
		if got, want := refine.Moved(refine.Moved(x.is, c.by), -c.by), filled(c.puts...); !timeline.Same(got, want.is) {
			t.Errorf("by %d and back: %v, not %v", c.by, got.Segs(all()), want.is.Segs(all()))
		}
	}
	for _, by := range []int{-2, -1, 1, 2, 3} {
		for _, more := range []int{-2, -1, 1, 2, 3} {
			if got, want := refine.Moved(refine.Moved(x.is, by), more), refine.Moved(x.is, by+more); by+more >= -2 && by+more <= 3 && !timeline.Same(got, want) {
				t.Errorf("by %d and %d: %v, not %v", by, more, got.Segs(all()), want.Segs(all()))
			}
		}
	}
}

// P12.3
func TestMap(t *testing.T) {
	x := filled(puts(1, 2, 4, 3, 7, 5, 7, 9, 6, far, far+5, -5, last, end, 7)...)
	for _, c := range []struct {
		what string
		of   func(v int) int
		want []put[int]
	}{
		{"the same", func(v int) int { return v }, x.puts},
		{"one more", func(v int) int { return v + 1 }, puts(1, end, 1, 1, 2, 5, 3, 7, 6, 7, 9, 7, far, far+5, -4, last, end, 8)},
		{"nought", func(v int) int { return 0 }, nil},
		{"one number", func(v int) int { return 9 }, puts(1, end, 9)},
		{"nought of one", func(v int) int {
			if v == 5 {
				return 0
			}
			return v
		}, puts(1, 2, 4, 7, 9, 6, far, far+5, -5, last, end, 7)},
		{"another one of nought alone", func(v int) int {
			if v == 0 {
				return 3
			}
			return v
		}, puts(1, end, 3, 1, 2, 4, 3, 7, 5, 7, 9, 6, far, far+5, -5, last, end, 7)},
		{"nought and others change places", func(v int) int {
			if v == 0 {
				return 1
			}
			return 0
		}, puts(2, 3, 1, 9, far, 1, far+5, last, 1)},
		{"the same of two side by side", func(v int) int { return v / 2 * 2 }, puts(1, 2, 4, 3, 7, 4, 7, 9, 6, far, far+5, -4, last, end, 6)},
		{"the same of two side by side, and of others", func(v int) int { return min(v, 1) }, puts(1, 2, 1, 3, 9, 1, far, far+5, -5, last, end, 1)},
		{"the same of what is unlike by its sign", func(v int) int { return v * v }, puts(1, 2, 16, 3, 7, 25, 7, 9, 36, far, far+5, 25, last, end, 49)},
		{"one's value is nought's", func(v int) int { return v % 5 }, puts(1, 2, 4, 7, 9, 1, last, end, 2)},
	} {
		want := filled(c.want...)
		if got := refine.Map(x.is, c.of); !timeline.Same(got, want.is) || got.Pieces() != want.is.Pieces() {
			t.Errorf("%s: %v, not %v", c.what, got.Segs(all()), want.is.Segs(all()))
		}
		for _, y := range append(unmade[int](), x, filled[int](), filled(puts(1, end, 5)...), filled(puts(3, 5, 5, 5, 7, 6)...)) {
			holdMap(t, y, c.of)
			unchanged(t, y)
		}
	}
}

// P12.3: values of other types.
func TestMapTypes(t *testing.T) {
	x := filled(puts(1, 2, 4, 3, 7, 5, 7, 9, 6, far, far+5, -5, last, end, 7)...)
	holdMap(t, x, strconv.Itoa)
	holdMap(t, x, func(v int) string { return strings.Repeat("a", max(v, 0)) })
	holdMap(t, x, func(v int) bool { return v > 4 })
	holdMap(t, x, func(v int) uint8 { return uint8(v) })
	holdMap(t, x, func(v int) float64 { return float64(v) / 2 })
	holdMap(t, x, func(v int) [2]int { return [2]int{v, -v} })
	holdMap(t, x, func(v int) struct{} { return struct{}{} })
	holdMap(t, x, func(v int) any { return v })
	holdMap(t, x, func(v int) any { return nil })
	holdMap(t, x, func(v int) api.Value { return api.Value{Kind: api.Num, N: api.Dec{C: int64(v)}} })
	holdMap(t, x, func(v int) api.Errno { return api.Errno(v) })
	holdMap(t, x, func(v int) *int { return nil })

	y := filled(put[string]{3, 7, "aa"}, put[string]{7, 9, "bb"}, put[string]{9, 12, "c"})
	holdMap(t, y, func(v string) int { return len(v) })
	holdMap(t, y, func(v string) string { return v })
	holdMap(t, y, func(v string) byte { return (v + "?")[0] })
	if got := refine.Map(y.is, func(v string) int { return len(v) }); got.Pieces() != 2 || got.At(6) != 2 || got.At(7) != 2 || got.At(9) != 1 {
		t.Errorf("%v", got.Segs(all()))
	}
	unchanged(t, x)
	unchanged(t, y)
}

// P12.3: a function that is not there, or panics, makes no call panic; days of whose value nothing is made have the zero value.
func TestMapPanics(t *testing.T) {
	x := filled(puts(1, 2, 4, 3, 7, 5, 7, 9, 6, last, end, 7)...)
	for _, y := range append(unmade[int](), x, filled[int](), filled(puts(1, end, 5)...)) {
		if got := refine.Map[int, string](y.is, nil); got == nil || got.Pieces() != 0 || got.Put(span(3, 7), "a") != api.OK || got.Pieces() != 1 {
			t.Errorf("no function, of %v: %v", y.puts, got)
		}
		for _, with := range []any{"no", 5, nil, errors.New("no")} {
			if got := refine.Map(y.is, func(v int) int { panic(with) }); got == nil || got.Pieces() != 0 {
				t.Errorf("%v, of %v: %v", with, y.puts, got)
			}
		}
		unchanged(t, y)
	}
	for v, want := range map[int][]put[int]{
		0: puts(1, 2, 25, 3, 7, 20, 7, 9, 16, last, end, 14), // 100 by nought
		5: puts(1, end, -20, 1, 2, -100, 7, 9, 100, last, end, 50, 3, 7, 0),
	} {
		got, want := refine.Map(x.is, func(w int) int { return 100 / (w - v) }), filled(want...)
		if !timeline.Same(got, want.is) {
			t.Errorf("%v, not %v", got.Segs(all()), want.is.Segs(all()))
		}
	}
	unchanged(t, x)
}

// P12.3: what a function does to the timeline while it is gone over is no harm.
func TestMapPuts(t *testing.T) {
	x := filled(puts(3, 7, 5, 7, 9, 6)...)
	got := refine.Map(x.is, func(v int) int {
		x.is.Put(all(), 8)
		return v
	})
	if want := filled(puts(3, 7, 5, 7, 9, 6)...); !timeline.Same(got, want.is) {
		t.Errorf("%v", got.Segs(all()))
	}
}

// corners are days from which on some are looked at.
func corners(days int) []int { return []int{first, 700, far - days/2, end - days} }

// rows are all lines of some values on some days from one on, put day by day.
func rows(from, days, values int) []line[int] {
	l := []line[int]{{}}
	for i := range days {
		var longer []line[int]
		for _, x := range l {
			for v := range values {
				longer = append(longer, line[int]{puts: append(slices.Clone(x.puts), put[int]{from + i, from + i + 1, v})})
			}
		}
		l = longer
	}
	for i, x := range l {
		l[i] = filled(x.puts...)
	}
	return l
}

// near are spans of some days from one on, of those beside them, and all days.
func near(from, days int) []api.Span {
	var l []int
	for day := max(from-1, first); day <= min(from+days+1, end); day++ {
		l = append(l, day)
	}
	return append(between(l), all())
}

// daily are the parts of lines over a span, gone over day by day.
func daily(s api.Span, lines []line[int]) []api.Part[int] {
	var l []api.Part[int]
	for day := s.From; day < s.To; day++ {
		v := row(lines, day)
		if n := len(l); n > 0 && slices.Equal(l[n-1].V, v) {
			l[n-1].To++
		} else {
			l = append(l, part(day, day+1, v...))
		}
	}
	return l
}

// P12.1, P12.2: all pairs of lines of three values on three days, at some places, are held day by day.
func TestAllPairs(t *testing.T) {
	const days = 3
	for _, from := range corners(days) {
		lines := rows(from, days, 3)
		spans := near(from, days)
		for _, a := range lines {
			for _, b := range lines {
				for _, s := range spans[:len(spans)-1] {
					want := daily(s, []line[int]{a, b})
					if l := refine.Parts(s, a.is, b.is); !equal(l, want) {
						t.Fatalf("parts %v of %v, %v: %v, not %v", s, a.puts, b.puts, l, want)
					}
					var l []api.Span
					for _, x := range want {
						if n := len(l); x.V[0] == x.V[1] {
						} else if n > 0 && l[n-1].To == x.From {
							l[n-1].To = x.To
						} else {
							l = append(l, span(x.From, x.To))
						}
					}
					if got := refine.Differ(a.is, b.is, s); !slices.Equal(got, l) {
						t.Fatalf("differ %v of %v, %v: %v, not %v", s, a.puts, b.puts, got, l)
					}
				}
				holdDiffer(t, all(), a, b)
			}
		}
		unchanged(t, lines...)
	}
}

// P12.1: all triples of lines of two values on three days.
func TestAllTriples(t *testing.T) {
	const days = 3
	for _, from := range corners(days) {
		lines := rows(from, days, 2)
		for _, a := range lines {
			for _, b := range lines {
				for _, c := range lines {
					for _, s := range near(from, days) {
						holdParts(t, s, a, b, c)
					}
				}
			}
		}
	}
}

// P12.3: all lines of three values on three days, moved by some days; and by all functions of these values.
func TestAllMovedAndMapped(t *testing.T) {
	const days = 3
	for _, from := range corners(days) {
		for _, x := range rows(from, days, 3) {
			for by := -days - 2; by <= days+2; by++ {
				holdMoved(t, x, by)
				// So that it comes to each end of all days, and over it.
				holdMoved(t, x, first-from+by)
				holdMoved(t, x, end-days-from+by)
			}
			for f := range 27 {
				holdMap(t, x, func(v int) int { return []int{f % 3, f / 3 % 3, f / 9}[v] })
			}
			unchanged(t, x)
		}
	}
}

// mixed are puts of no order that could be told, of spans of many lengths, the same each time.
func mixed[V comparable](seed int64, count int, values ...V) []put[V] {
	r := rand.New(rand.NewSource(seed))
	var l []put[V]
	for range count {
		length := 1 + r.Intn(1<<r.Intn(22))
		from := first + r.Intn(last)
		if len(l) > 0 && r.Intn(3) == 0 { // beside one that was put
			p := l[r.Intn(len(l))]
			from = []int{p.from, p.to, p.from - length, p.to - length}[r.Intn(4)]
		}
		from = min(max(from, first), last)
		l = append(l, put[V]{from, min(from+length, end), values[r.Intn(len(values))]})
	}
	return l
}

// P12.1, P12.2, P12.3
func TestMixed(t *testing.T) {
	for seed := range int64(60) {
		r := rand.New(rand.NewSource(seed))
		var lines []line[int]
		for i := range r.Int63n(5) {
			lines = append(lines, filled(mixed(seed+1000*i, r.Intn(20), 0, 0, 1, 2, -1)...))
		}
		if len(lines) > 1 && r.Intn(2) == 0 { // nearly the same
			near := filled(lines[0].puts...)
			near.put(mixed(seed, 1, 0, 1)[0])
			lines[1] = near
		}
		l := bounds(lines...)
		spans := []api.Span{all()}
		for range 20 {
			if i, j := r.Intn(len(l)), r.Intn(len(l)); i != j {
				spans = append(spans, span(l[min(i, j)], l[max(i, j)]))
			}
		}
		for _, s := range spans {
			holdParts(t, s, lines...)
			for i := range lines {
				for j := range i {
					holdDiffer(t, s, lines[i], lines[j])
				}
			}
		}
		for _, x := range lines {
			holdMoved(t, x, r.Intn(2*end)-end)
			holdMoved(t, x, r.Intn(21)-10)
			holdMap(t, x, func(v int) int { return v * v })
			holdMap(t, x, func(v int) bool { return v == 0 })
		}
		unchanged(t, lines...)
	}
}

// P12.1, P12.2, P12.3: many pieces, each of one day, over those from which on a timeline keeps them elsewhere.
func TestManyPieces(t *testing.T) {
	const count = 40000
	from := far - count/2
	a, b := timeline.New[int](), timeline.New[int]()
	for i := range count {
		a.Put(span(from+i, from+i+1), 1+i%2)
		b.Put(span(from+i, from+i+1), 1+i%3)
	}
	l := refine.Parts(span(from, from+count), a, b)
	if len(l) != count {
		t.Fatalf("%d parts", len(l))
	}
	for i, x := range l {
		if x.From != from+i || x.To != from+i+1 || !slices.Equal(x.V, []int{1 + i%2, 1 + i%3}) {
			t.Fatalf("the part %d: %v", i, x)
		}
	}
	days := 0
	for i, x := range refine.Differ(a, b, all()) { // alike on two days of six
		days += x.To - x.From
		if want := from + 2 + 6*i; x.From != want || x.To != min(want+4, from+count) {
			t.Fatalf("the span %d: %v", i, x)
		}
	}
	if days != count/6*4+2 {
		t.Fatalf("unlike on %d days", days)
	}
	for _, by := range []int{1, -1, count, 2*far - 7, -from, -from - count/2} {
		m := refine.Moved(a, by)
		for i := range count {
			want := 1 + i%2
			if from+i+by < first {
				want = 0
			}
			if got := m.At(from + i + by); got != want {
				t.Fatalf("moved by %d, at %d: %d", by, from+i+by, got)
			}
		}
	}
	if m := refine.Map(a, func(v int) int { return min(v, 1) }); m.Pieces() != 1 || m.At(from) != 1 || m.At(from-1) != 0 {
		t.Fatalf("%d pieces", m.Pieces())
	}
}

// held holds timelines of some type's values, by some of these.
func held[V comparable](t *testing.T, values ...V) {
	t.Helper()
	var zero V
	values = append(values, zero)
	for seed := range int64(4) {
		a, b := filled(mixed(seed, 20, values...)...), filled(mixed(seed+9, 20, values...)...)
		lines := append(unmade[V](), a, b, filled[V]())
		for _, s := range append(some(), span(700, last-700)) {
			holdParts(t, s, lines...)
			for _, x := range lines {
				for _, y := range lines {
					holdDiffer(t, s, x, y)
				}
			}
		}
		for _, x := range lines {
			holdMoved(t, x, int(seed)*1000-3)
			holdMap(t, x, func(v V) V { return v })
			holdMap(t, x, func(v V) V { return values[0] })
			holdMap(t, x, func(v V) bool { return v == values[0] })
		}
		unchanged(t, lines...)
	}
}

// P12.1, P12.2, P12.3: values of types other than whole numbers.
func TestTypes(t *testing.T) {
	type pair struct {
		name string
		n    [2]int8
	}
	one, two := 1, 1
	held(t, api.Value{Kind: api.Num, N: api.Dec{C: 15, S: 1}}, api.Value{Kind: api.Num}, api.Value{Kind: api.Num, N: api.Dec{C: 15}}, api.Value{Kind: api.True}, api.Value{Kind: api.False}, api.Value{Kind: api.Bad, E: api.ErrDiv}, api.Value{Kind: api.Bad, E: api.ErrOver})
	held(t, "a", "b", "A", "a\x00")
	held(t, true)
	held[uint8](t, 1, 128, 255)
	held(t, 0.5, -0.5, math.Inf(1))
	held(t, [3]int{0, 0, 1}, [3]int{1, 0, 0})
	held(t, pair{name: "a"}, pair{n: [2]int8{0, 1}}, pair{"a", [2]int8{0, 1}})
	held(t, &one, &two)
	held(t, struct{}{})
	held[any](t, 1, "1", int8(1), 0, "", false, pair{}, &one, api.Value{})
}

// P12.1, P12.2, P12.3: a number that is unlike itself, and values that can't be held against each other, make no call panic, and are unlike all.
func TestUnlikeItself(t *testing.T) {
	nan := timeline.New[float64]()
	nan.Put(span(3, 9), math.NaN())
	nan.Put(span(5, 6), 2)
	l := refine.Parts(span(1, 12), nan, nan)
	if len(l) != 5 || l[0].To != 3 || l[1].To != 5 || l[2].To != 6 || l[3].To != 9 || l[4].To != 12 || !math.IsNaN(l[1].V[0]) || !math.IsNaN(l[3].V[1]) || l[2].V[0] != 2 || l[4].V[1] != 0 {
		t.Errorf("parts: %v", l)
	}
	if l := refine.Differ(nan, nan, all()); !slices.Equal(l, of(3, 5, 6, 9)) {
		t.Errorf("differ: %v", l)
	}
	if m := refine.Moved(nan, 2); !math.IsNaN(m.At(5)) || !math.IsNaN(m.At(10)) || m.At(7) != 2 || m.At(4) != 0 || m.At(11) != 0 {
		t.Errorf("moved: %v", m.Segs(all()))
	}
	if m := refine.Map(nan, func(v float64) bool { return v != v }); m.At(2) || !m.At(3) || m.At(5) || !m.At(8) || m.At(9) {
		t.Errorf("map: %v", m.Segs(all()))
	}

	list := []int{1, 2}
	odd := timeline.New[any]()
	odd.Put(span(3, 9), list)
	odd.Put(span(5, 6), 2)
	odd.Put(span(7, 8), struct{ v any }{list})
	if l := refine.Parts(span(1, 12), odd, odd, nil); len(l) != 7 || l[1].From != 3 || l[6].From != 9 || l[2].V[0] != 2 || l[6].V[1] != nil || l[1].V[2] != nil {
		t.Errorf("parts: %v", l)
	}
	if l := refine.Differ(odd, odd, all()); !slices.Equal(l, of(3, 5, 6, 9)) {
		t.Errorf("differ: %v", l)
	}
	if l := refine.Differ(odd, nil, all()); !slices.Equal(l, of(3, 9)) {
		t.Errorf("differ: %v", l)
	}
	m := refine.Moved(odd, -1)
	if v, is := m.At(2).([]int); !is || !slices.Equal(v, list) || m.At(4) != 2 || m.At(8) != nil {
		t.Errorf("moved: %v", m.Segs(all()))
	}
	m = refine.Map(odd, func(v any) any { return []any{v} })
	if v, is := m.At(1).([]any); !is || len(v) != 1 || v[0] != nil {
		t.Errorf("map: %v", m.Segs(all()))
	}
	if v, is := m.At(5).([]any); !is || len(v) != 1 || v[0] != 2 {
		t.Errorf("map: %v", m.Segs(all()))
	}
}

// P12.1, P12.2: what is told may be written over, and changes nothing else that is told, then or later.
func TestToldIsFree(t *testing.T) {
	x, y := filled(puts(1, 2, 4, 3, 7, 5, 7, 9, 6, last, end, 8)...), filled(puts(2, 5, 4, 8, far, 5)...)
	lines := []*timeline.Timeline[int]{x.is, y.is, nil}
	for _, s := range some() {
		l, more := refine.Parts(s, lines...), refine.Parts(s, lines...)
		for i := range l {
			for j := range l[i].V {
				l[i].V[j] = 77
			}
			_ = append(l[i].V, 78, 79)
			l[i].From, l[i].To = least, most
			if rest := more[i+1:]; !equal(l[i+1:], rest) {
				t.Fatalf("over %v, behind the part %d: %v, not %v", s, i, l[i+1:], rest)
			}
		}
		_ = append(l, part(7, 8, 9))
		if !equal(more, parts(s, x, y, line[int]{})) {
			t.Fatalf("over %v: %v", s, more)
		}

		spans, again := refine.Differ(x.is, y.is, s), refine.Differ(x.is, y.is, s)
		ends := []int{last, 8, 5, 4, 8, 1, far}
		cut, once := refine.Cut(s, ends), refine.Cut(s, ends)
		want := slices.Clone(once)
		for i := range spans {
			spans[i] = span(7, 5)
		}
		for i := range cut {
			cut[i] = span(7, 5)
		}
		_ = append(spans, span(1, 2))
		_ = append(cut, span(1, 2))
		clear(ends)
		if !slices.Equal(again, unlike(s, x, y)) || !slices.Equal(once, want) {
			t.Fatalf("over %v: %v, %v", s, again, once)
		}
		holdParts(t, s, x, y)
		holdDiffer(t, s, x, y)
	}
	if !slices.Equal(lines, []*timeline.Timeline[int]{x.is, y.is, nil}) {
		t.Error("the list of timelines is changed")
	}
	unchanged(t, x, y)
}

// P12.1, P12.2: what was told stays, whatever is put to the timelines, and is told of their values of then.
func TestToldStays(t *testing.T) {
	x, y := filled(puts(3, 7, 5)...), filled(puts(5, 9, 6)...)
	l, spans := refine.Parts(all(), x.is, y.is), refine.Differ(x.is, y.is, all())
	want, days := parts(all(), x, y), unlike(all(), x, y)
	x.put(put[int]{1, end, 2})
	y.put(put[int]{4, 6, 2})
	if !equal(l, want) || !slices.Equal(spans, days) {
		t.Errorf("%v, %v", l, spans)
	}
	holdAll(t, x, y)
}

// P12.3: what is moved, or made, is a timeline of its own.
func TestOfItsOwn(t *testing.T) {
	for _, by := range []int{0, 1, -1, far, most, least} {
		x := filled(puts(3, 7, 5, 9, 12, 6)...)
		at, ends := moved(x, by)
		one, two := refine.Moved(x.is, by), refine.Moved(x.is, by)
		if one == x.is || one == two {
			t.Fatalf("by %d: not of its own", by)
		}
		if e := one.Put(all(), 9); e != api.OK || one.Pieces() != 1 {
			t.Fatalf("by %d: %d", by, e)
		}
		unchanged(t, x)
		told(t, two, at, ends, "by ", by)
		x.put(put[int]{1, end, 7})
		told(t, two, at, ends, "by ", by)
		unchanged(t, x, line[int]{is: one, puts: puts(1, end, 9)})
	}
	x := filled(puts(3, 7, 5, 9, 12, 6)...)
	same := func(v int) int { return v }
	one, two := refine.Map(x.is, same), refine.Map(x.is, same)
	if one == x.is || one == two {
		t.Fatal("map: not of its own")
	}
	if e := one.Put(all(), 9); e != api.OK {
		t.Fatal(e)
	}
	unchanged(t, x, line[int]{is: two, puts: x.puts})
	is := x.puts
	x.put(put[int]{1, end, 7})
	unchanged(t, x, line[int]{is: two, puts: is}, line[int]{is: one, puts: puts(1, end, 9)})
}

// P12.1, P12.2, P12.3: what is told hangs on no call ahead.
func TestAgain(t *testing.T) {
	x, y := filled(mixed(7, 30, 0, 1, 2)...), filled(mixed(8, 30, 0, 1, 2)...)
	ask := func() string {
		var l []string
		for _, s := range append(some(), refused()...) {
			l = append(l, fmt.Sprint(refine.Parts(s, x.is, y.is, nil), refine.Differ(x.is, y.is, s), refine.Cut(s, []int{s.To, s.From, 5, far, 4, far})))
		}
		for _, by := range []int{0, 5, -5, far, -far, most, least} {
			l = append(l, fmt.Sprint(refine.Moved(x.is, by).Segs(all())))
		}
		return strings.Join(append(l, fmt.Sprint(refine.Map(y.is, func(v int) bool { return v > 0 }).Segs(all()))), "\n")
	}
	was := ask()
	for range 3 {
		if ask() != was {
			t.Fatal("asked once more, another answer")
		}
	}
	unchanged(t, x, y)
}

// TestExamples are the chapter's examples, and those of its words.
func TestExamples(t *testing.T) { // P12.1
	a, b := timeline.New[int](), timeline.New[int]()
	a.Put(span(2, 4), 5)
	b.Put(span(3, 6), 7)
	want := []api.Part[int]{{From: 1, To: 2, V: []int{0, 0}}, {From: 2, To: 3, V: []int{5, 0}}, {From: 3, To: 4, V: []int{5, 7}}, {From: 4, To: 6, V: []int{0, 7}}}
	if l := refine.Parts(span(1, 6), a, b); !equal(l, want) {
		t.Errorf("%v, not %v", l, want)
	}
}
