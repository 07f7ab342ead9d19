package spans_test

import (
	"fmt"
	"math"
	"slices"
	"testing"

	"corrody/api"
	"corrody/spans"
)

const (
	most  = math.MaxInt
	least = math.MinInt
	end   = api.End
	last  = api.LastDay
)

// of are the spans from each number on, below the one behind it.
func of(bounds ...int) []api.Span {
	var l []api.Span
	for i := 0; i < len(bounds); i += 2 {
		l = append(l, api.Span{From: bounds[i], To: bounds[i+1]})
	}
	return l
}

// told holds what is told against what should be, with a text of what was asked.
func told(t *testing.T, got, want []api.Span, form string, asked ...any) {
	t.Helper()
	if !slices.Equal(got, want) {
		t.Errorf("%s: %v, not %v", fmt.Sprintf(form, asked...), got, want)
	}
}

// none are lists of no days, each in a way of its own.
func none() [][]api.Span {
	return [][]api.Span{
		nil, {}, of(5, 5), of(5, 4), of(0, 0), of(end, end), of(least, least), of(most, most), of(most, least),
		of(-5, 1), of(0, 1), of(least, 1), of(least, 0), of(end, end+1), of(end, most), of(end+7, end+9), of(most-1, most),
		of(least, least+1), of(1, least), of(most, 1), of(last, 1), of(end, 1), of(1, 0), of(1, 1), of(5, 5, 7, 7), of(9, 5, -3, 1, end, most, 5, 5),
	}
}

// P7.1
func TestMayHolds(t *testing.T) {
	for _, l := range [][]api.Span{
		nil, {}, of(5, 7), of(5, 6), of(1, 2), of(last, end), of(1, end), of(1, 2, last, end), of(7, end),
		of(1, 3, 4, 9), of(1, 2, 3, 4, 5, 6, 8, 9), of(1, 3, 5, 9, 20, 30), of(1, last-1, last, end), of(2, last),
	} {
		if !spans.May(l) {
			t.Error(l)
		}
	}
}

// P7.1
func TestMayFails(t *testing.T) {
	for _, l := range [][]api.Span{
		of(5, 5), of(5, 4), of(1, 1), of(1, 0), of(end, end), of(0, 0), of(0, 1), of(0, 5), of(-1, 5), of(least, 5), of(least, least),
		of(1, end+1), of(5, most), of(end, end+1), of(end, most), of(most, most), of(most, least), of(least, most), of(last, end+1), of(end+1, end),
		of(1, 3, 3, 5), of(1, 3, 2, 5), of(1, 3, 1, 3), of(1, 9, 3, 5), of(3, 5, 1, 9), of(5, 7, 1, 3), of(3, 5, 1, 3), of(1, 3, 1, 5), of(1, 3, 3, 3),
		of(1, 3, 5, 5), of(1, 3, 5, 4), of(1, 3, 6, 2), of(1, 1, 5, 7), of(2, 1, 5, 7), of(0, 3, 5, 7), of(least, 3, 5, 7), of(1, 3, 5, end+1), of(1, 3, 5, most),
		of(1, 3, end, end), of(1, 3, end, end+1), of(1, end, end, end+1), of(1, end, 1, end), of(1, end, end+1, end+2), of(0, 1, 2, 3), of(-3, -1, 2, 3),
		of(1, 3, least, least), of(1, 3, most, least), of(1, 3, least, most), of(1, 3, -5, 9),
	} {
		if spans.May(l) {
			t.Error(l)
		}
	}
}

// P7.1: one place of a list that is right is made wrong, whichever it is.
func TestMayOfEachPlace(t *testing.T) {
	right := of(1, 3, 5, 6, 8, 12, 20, 30, last, end)
	if !spans.May(right) {
		t.Fatal(right)
	}
	for i, x := range right {
		for what, y := range map[string]api.Span{
			"empty": {From: x.From, To: x.From}, "turned": {From: x.To, To: x.From}, "ahead of all": {From: 0, To: x.To},
			"the least int": {From: least, To: x.To}, "behind all": {From: x.From, To: end + 1}, "the greatest int": {From: x.From, To: most},
		} {
			l := slices.Clone(right)
			l[i] = y
			if spans.May(l) {
				t.Error(what, l)
			}
		}
		if i == 0 {
			continue
		}
		for what, from := range map[string]int{"touch": right[i-1].To, "overlap": right[i-1].To - 1, "the same": right[i-1].From, "fall": right[i-1].From - 1} {
			l := slices.Clone(right)
			l[i].From = from
			if spans.May(l) {
				t.Error(what, l)
			}
		}
	}
}

// P7.1
func TestOf(t *testing.T) {
	for _, x := range []struct{ l, want []api.Span }{
		{of(5, 7, 1, 3, 7, 9), of(1, 3, 5, 9)},
		{of(5, 7), of(5, 7)},
		{of(5, 6), of(5, 6)},
		{of(1, 2), of(1, 2)},
		{of(last, end), of(last, end)},
		{of(1, end), of(1, end)},
		{of(1, 3, 3, 5), of(1, 5)},
		{of(3, 5, 1, 3), of(1, 5)},
		{of(1, 3, 4, 5), of(1, 3, 4, 5)},
		{of(4, 5, 1, 3), of(1, 3, 4, 5)},
		{of(1, 4, 3, 6), of(1, 6)},
		{of(3, 6, 1, 4), of(1, 6)},
		{of(1, 9, 3, 5), of(1, 9)},
		{of(3, 5, 1, 9), of(1, 9)},
		{of(1, 9, 3, 5, 6, 12), of(1, 12)},
		{of(1, 9, 3, 5, 9, 12), of(1, 12)},
		{of(1, 9, 3, 5, 10, 12), of(1, 9, 10, 12)},
		{of(1, 9, 1, 5), of(1, 9)},
		{of(1, 5, 1, 9), of(1, 9)},
		{of(1, 9, 5, 9), of(1, 9)},
		{of(3, 5, 3, 5), of(3, 5)},
		{of(5, 6, 7, 8, 6, 7), of(5, 8)},
		{of(7, 8, 5, 6, 3, 4, 1, 2), of(1, 2, 3, 4, 5, 6, 7, 8)},
		{of(least, most), of(1, end)},
		{of(least, end), of(1, end)},
		{of(1, most), of(1, end)},
		{of(0, end+1), of(1, end)},
		{of(least, 2), of(1, 2)},
		{of(last, most), of(last, end)},
		{of(-5, 3, end-2, end+9), of(1, 3, end-2, end)},
		{of(0, 2, -3, 5), of(1, 5)},
		{of(end-1, most, end-3, end+4), of(end-3, end)},
		{of(5, 5, 1, 3), of(1, 3)},
		{of(3, 3, 1, 3, 3, 5), of(1, 5)},
		{of(4, 4, 1, 3, 5, 6), of(1, 3, 5, 6)},
		{of(9, 2, 4, 5), of(4, 5)},
		{of(most, least, 4, 5), of(4, 5)},
		{of(1, 3, last, end), of(1, 3, last, end)},
		{of(1, last, last, end), of(1, end)},
	} {
		told(t, spans.Of(x.l), x.want, "of %v", x.l)
	}
	for _, l := range none() {
		told(t, spans.Of(l), nil, "of %v", l)
	}
}

// P7.1
func TestUnionMeetLess(t *testing.T) {
	for _, x := range []struct{ a, b, union, meet, less []api.Span }{
		{of(1, 9), of(3, 5), of(1, 9), of(3, 5), of(1, 3, 5, 9)},
		{of(3, 5), of(1, 9), of(1, 9), of(3, 5), nil},
		{of(1, 5), of(3, 9), of(1, 9), of(3, 5), of(1, 3)},
		{of(3, 9), of(1, 5), of(1, 9), of(3, 5), of(5, 9)},
		{of(1, 3), of(3, 5), of(1, 5), nil, of(1, 3)},
		{of(3, 5), of(1, 3), of(1, 5), nil, of(3, 5)},
		{of(1, 3), of(4, 5), of(1, 3, 4, 5), nil, of(1, 3)},
		{of(4, 5), of(1, 3), of(1, 3, 4, 5), nil, of(4, 5)},
		{of(3, 5), of(3, 5), of(3, 5), of(3, 5), nil},
		{of(1, 9), of(1, 4), of(1, 9), of(1, 4), of(4, 9)},
		{of(1, 9), of(4, 9), of(1, 9), of(4, 9), of(1, 4)},
		{of(1, 9), of(2, 3, 4, 5, 6, 7), of(1, 9), of(2, 3, 4, 5, 6, 7), of(1, 2, 3, 4, 5, 6, 7, 9)},
		{of(1, 3, 5, 7, 9, 11), of(3, 5, 7, 9), of(1, 11), nil, of(1, 3, 5, 7, 9, 11)},
		{of(1, 3, 5, 7, 9, 11), of(2, 6, 8, 10), of(1, 7, 8, 11), of(2, 3, 5, 6, 9, 10), of(1, 2, 6, 7, 10, 11)},
		{of(1, end), of(5, 6), of(1, end), of(5, 6), of(1, 5, 6, end)},
		{of(1, end), of(1, 2, last, end), of(1, end), of(1, 2, last, end), of(2, last)},
		{of(5, 6), of(1, end), of(1, end), of(5, 6), nil},
		{of(1, end), of(1, end), of(1, end), of(1, end), nil},
		{of(1, 2), of(last, end), of(1, 2, last, end), nil, of(1, 2)},
		{of(last, end), of(1, 2), of(1, 2, last, end), nil, of(last, end)},
		{of(1, 5), of(5, end), of(1, end), nil, of(1, 5)},
		// Lists that are not right.
		{of(5, 7, 1, 3, 7, 9), of(8, 8, 2, 6), of(1, 9), of(2, 3, 5, 6), of(1, 2, 6, 9)},
		{of(1, 3, 3, 5), of(4, 5, 2, 4), of(1, 5), of(2, 5), of(1, 2)},
		{of(3, 5, 3, 5, 3, 4), of(4, 5, 4, 5), of(3, 5), of(4, 5), of(3, 4)},
		{of(least, most), of(0, 3, last, most), of(1, end), of(1, 3, last, end), of(3, last)},
		{of(-7, 4), of(least, 2), of(1, 4), of(1, 2), of(2, 4)},
		{of(end-3, end+3), of(end-1, most), of(end-3, end), of(end-1, end), of(end-3, end-1)},
		{of(9, 2, 4, 5), of(5, 5, 4, 4, 6, 1), of(4, 5), nil, of(4, 5)},
		{of(most, least), of(least, most), of(1, end), nil, nil},
	} {
		told(t, spans.Union(x.a, x.b), x.union, "%v or %v", x.a, x.b)
		told(t, spans.Meet(x.a, x.b), x.meet, "%v and %v", x.a, x.b)
		told(t, spans.Less(x.a, x.b), x.less, "%v less %v", x.a, x.b)
	}
}

// P7.1
func TestUnionMeetLessOfNoDays(t *testing.T) {
	for _, a := range none() {
		for _, l := range [][]api.Span{of(3, 5, 7, 9), of(1, 2), of(last, end), of(1, end)} {
			told(t, spans.Union(a, l), l, "%v or %v", a, l)
			told(t, spans.Union(l, a), l, "%v or %v", l, a)
			told(t, spans.Meet(a, l), nil, "%v and %v", a, l)
			told(t, spans.Meet(l, a), nil, "%v and %v", l, a)
			told(t, spans.Less(a, l), nil, "%v less %v", a, l)
			told(t, spans.Less(l, a), l, "%v less %v", l, a)
		}
		for _, b := range none() {
			told(t, spans.Union(a, b), nil, "%v or %v", a, b)
			told(t, spans.Meet(a, b), nil, "%v and %v", a, b)
			told(t, spans.Less(a, b), nil, "%v less %v", a, b)
		}
	}
}

// P7.1
func TestAll(t *testing.T) {
	told(t, spans.All(), of(1, 3652060), "all")
	told(t, spans.Less(spans.All(), spans.All()), nil, "all less all")
}

// P7.2
func TestWide(t *testing.T) {
	for _, x := range []struct {
		l    []api.Span
		k    int
		want []api.Span
	}{
		{of(1, 3), 4, of(1, 7)},
		{of(1, 3), 0, of(1, 3)},
		{of(1, 3), 1, of(1, 4)},
		{of(1, 3), -1, of(1, 3)},
		{of(1, 3), -4, of(1, 3)},
		{of(1, 3), least, of(1, 3)},
		{of(1, 3), most, of(1, end)},
		{of(1, 3, 7, 9), 3, of(1, 6, 7, 12)},
		{of(1, 3, 7, 9), 4, of(1, 13)},
		{of(1, 3, 7, 9), 5, of(1, 14)},
		{of(1, 3, 7, 9), 0, of(1, 3, 7, 9)},
		{of(1, 3, 7, 9), -2, of(1, 3, 7, 9)},
		{of(1, 3, 7, 9), most, of(1, end)},
		{of(1, 2, 3, 4, 6, 7), 1, of(1, 5, 6, 8)},
		{of(1, 2, 3, 4, 6, 7), 2, of(1, 9)},
		{of(3, 4, 8, 10), 4, of(3, 14)},
		{of(3, 4, 8, 10), 3, of(3, 7, 8, 13)},
		{of(1, 2), last - 2, of(1, last)},
		{of(1, 2), last - 1, of(1, end)},
		{of(1, 2), last, of(1, end)},
		{of(1, 2), end, of(1, end)},
		{of(1, 2), most, of(1, end)},
		{of(1, 2), most - 1, of(1, end)},
		{of(7, 9), most, of(7, end)},
		{of(7, 9), most - 9, of(7, end)},
		{of(last, end), 0, of(last, end)},
		{of(last, end), 1, of(last, end)},
		{of(last, end), most, of(last, end)},
		{of(last, end), least, of(last, end)},
		{of(last-5, last-3), 2, of(last-5, last-1)},
		{of(last-5, last-3), 3, of(last-5, last)},
		{of(last-5, last-3), 4, of(last-5, end)},
		{of(last-5, last-3), 5, of(last-5, end)},
		{of(1, end), 0, of(1, end)},
		{of(1, end), 1, of(1, end)},
		{of(1, end), most, of(1, end)},
		{of(1, 2, last, end), 1, of(1, 3, last, end)},
		{of(1, 2, last, end), last - 3, of(1, last-1, last, end)},
		{of(1, 2, last, end), last - 2, of(1, end)},
		// What lies ahead of FirstDay is no day, nor are the days behind it.
		{of(-5, 1), 9, nil},
		{of(0, 1), most, nil},
		{of(least, 0), most, nil},
		{of(-5, 2), 2, of(1, 4)},
		{of(least, 2), 2, of(1, 4)},
		{of(end, most), 3, nil},
		{of(last, most), 3, of(last, end)},
		{of(least, most), most, of(1, end)},
		{of(7, 9, 1, 3), 3, of(1, 6, 7, 12)},
		{of(7, 9, 1, 3, 8, 9), 4, of(1, 13)},
		{of(5, 5), 3, nil},
		{of(7, 5), 9, nil},
		{of(5, 5, 9, 2, 20, 21), 3, of(20, 24)},
		{of(most, least), most, nil},
		{of(most-3, most), 5, nil},
	} {
		told(t, spans.Wide(x.l, x.k), x.want, "wide of %v by %d", x.l, x.k)
	}
	for _, l := range none() {
		for _, k := range []int{0, 1, 9, -1, last, end, most, least} {
			told(t, spans.Wide(l, k), nil, "wide of %v by %d", l, k)
		}
	}
}

// P7.2
func TestHas(t *testing.T) {
	l := of(3, 5, 9, 10, 20, 22)
	days := []int{3, 4, 9, 20, 21}
	for day := -3; day <= 40; day++ {
		if spans.Has(l, day) != slices.Contains(days, day) {
			t.Error(l, day)
		}
	}
	for _, x := range []struct {
		l   []api.Span
		yes []int
		no  []int
	}{
		{of(1, end), []int{1, 2, 730179, last - 1, last}, []int{0, -1, end, end + 1, least, most}},
		{of(least, most), []int{1, 2, 730179, last - 1, last}, []int{0, -1, end, end + 1, least, least + 1, most, most - 1}},
		{of(1, 2), []int{1}, []int{0, 2, 3, last, end, least, most}},
		{of(0, 2), []int{1}, []int{-1, 0, 2}},
		{of(-9, 1), nil, []int{-9, -1, 0, 1}},
		{of(last, end), []int{last}, []int{1, last - 1, end, end + 1, least, most}},
		{of(last, most), []int{last}, []int{last - 1, end, end + 1, most - 1, most}},
		{of(end, most), nil, []int{last, end, end + 1, most - 1}},
		{of(7, 9, 1, 3, 8, 12), []int{1, 2, 7, 8, 9, 11}, []int{0, 3, 6, 12}},
		{of(1, 9, 3, 5), []int{1, 2, 3, 4, 5, 8}, []int{0, 9}},
		{of(1, 3, 3, 5), []int{1, 2, 3, 4}, []int{0, 5}},
		{of(9, 2, 4, 5), []int{4}, []int{2, 3, 5, 8, 9}},
		{of(7, 7), nil, []int{6, 7, 8}},
	} {
		for _, day := range x.yes {
			if !spans.Has(x.l, day) {
				t.Error(x.l, "has not", day)
			}
		}
		for _, day := range x.no {
			if spans.Has(x.l, day) {
				t.Error(x.l, "has", day)
			}
		}
	}
	for _, l := range none() {
		for _, day := range []int{1, 2, 4, 5, 6, 7, 9, 0, -1, last, end, least, most} {
			if spans.Has(l, day) {
				t.Error(l, "has", day)
			}
		}
	}
}

// P7.2
func TestDays(t *testing.T) {
	for _, x := range []struct {
		l    []api.Span
		want int
	}{
		{of(5, 7), 2}, {of(5, 6), 1}, {of(1, 2), 1}, {of(last, end), 1}, {of(1, end), 3652059}, {spans.All(), 3652059}, {of(least, most), 3652059}, {of(1, 3, 5, 9), 6},
		{of(5, 7, 1, 3, 7, 9), 6}, {of(1, 9, 3, 5), 8}, {of(3, 5, 3, 5), 2}, {of(1, 4, 3, 6), 5}, {of(0, 2), 1}, {of(least, 3), 2}, {of(last, most), 1},
		{of(-5, 3, end-2, end+9), 4}, {of(9, 2, 4, 5), 1}, {of(1, end, 1, end), 3652059}, {of(1, 2, last, end), 2}, {of(2, last), 3652057},
	} {
		if n := spans.Days(x.l); n != x.want {
			t.Errorf("days of %v: %d, not %d", x.l, n, x.want)
		}
	}
	for _, l := range none() {
		if n := spans.Days(l); n != 0 {
			t.Errorf("days of %v: %d", l, n)
		}
	}
}

// set is which of some cells are in it: those of a list of bounds, each from a bound on, below the next one.
type set []bool

// cells are the cells of bounds that spans have, whose own bounds are among them.
func cells(bounds []int, l []api.Span) set {
	s := make(set, len(bounds)-1)
	for i := range s {
		for _, x := range l {
			if x.From <= bounds[i] && bounds[i+1] <= x.To && api.FirstDay <= bounds[i] && bounds[i+1] <= api.End {
				s[i] = true
			}
		}
	}
	return s
}

// spansOf are the right spans of a set.
func (s set) spansOf(bounds []int) []api.Span {
	var l []api.Span
	for i, in := range s {
		switch {
		case in && i > 0 && s[i-1]:
			l[len(l)-1].To = bounds[i+1]
		case in:
			l = append(l, api.Span{From: bounds[i], To: bounds[i+1]})
		}
	}
	return l
}

// with is the set of the cells that f tells.
func (s set) with(o set, f func(a, b bool) bool) set {
	r := make(set, len(s))
	for i := range s {
		r[i] = f(s[i], o[i])
	}
	return r
}

// bounds are numbers of which FirstDay and End are two, and edges of what lies ahead of it, within it and behind it.
func bounds() []int {
	return []int{least, -1, 0, 1, 2, 3, 5, last - 1, last, end, end + 1, most}
}

// anySpans are all spans between bounds, right ones and others.
func anySpans(bounds []int) []api.Span {
	var l []api.Span
	for _, from := range bounds {
		for _, to := range bounds {
			l = append(l, api.Span{From: from, To: to})
		}
	}
	return l
}

// one holds May, Of, Days and Has of a list against its cells.
func one(t *testing.T, bounds []int, l []api.Span) {
	t.Helper()
	s := cells(bounds, l)
	right := s.spansOf(bounds)
	got := spans.Of(l)
	told(t, got, right, "of %v", l)
	if spans.May(l) != slices.Equal(l, right) {
		t.Errorf("may %v: %v", l, spans.May(l))
	}
	if !spans.May(got) {
		t.Errorf("of %v: %v are not right", l, got)
	}
	n := 0
	for i, in := range s {
		if in {
			n += bounds[i+1] - bounds[i]
		}
		if spans.Has(l, bounds[i]) != in || spans.Has(l, bounds[i+1]-1) != in {
			t.Errorf("has of %v at %d", l, bounds[i])
		}
	}
	if days := spans.Days(l); days != n {
		t.Errorf("days of %v: %d, not %d", l, days, n)
	}
}

// two holds Union, Meet and Less of two lists against their cells.
func two(t *testing.T, bounds []int, a, b []api.Span) {
	t.Helper()
	s, o := cells(bounds, a), cells(bounds, b)
	told(t, spans.Union(a, b), s.with(o, func(a, b bool) bool { return a || b }).spansOf(bounds), "%v or %v", a, b)
	told(t, spans.Meet(a, b), s.with(o, func(a, b bool) bool { return a && b }).spansOf(bounds), "%v and %v", a, b)
	told(t, spans.Less(a, b), s.with(o, func(a, b bool) bool { return a && !b }).spansOf(bounds), "%v less %v", a, b)
}

// P7.1, P7.2: lists of one and of two spans between edges.
func TestOneOfAnySpans(t *testing.T) {
	b := bounds()
	l := anySpans(b)
	for _, x := range l {
		one(t, b, []api.Span{x})
		for _, y := range l {
			one(t, b, []api.Span{x, y})
		}
	}
}

// P7.1, P7.2: lists of three spans, in any order.
func TestOneOfThreeSpans(t *testing.T) {
	b := []int{0, 1, 2, 3, 4, 5}
	l := anySpans(b)
	for _, x := range l {
		for _, y := range l {
			for _, z := range l {
				one(t, b, []api.Span{x, y, z})
			}
		}
	}
}

// P7.1: two lists of one span each, between edges.
func TestTwoOfAnySpans(t *testing.T) {
	b := bounds()
	l := anySpans(b)
	for _, x := range l {
		for _, y := range l {
			two(t, b, []api.Span{x}, []api.Span{y})
		}
	}
}

// days are the spans of one day each of those that a number's bits tell, from a day on; each one twice, the last one first, or in their order.
func days(from int, bits uint, twice bool) []api.Span {
	var l []api.Span
	for i := range 8 {
		if bits>>i&1 == 0 {
			continue
		}
		x := api.Span{From: from + i, To: from + i + 1}
		if l = append(l, x); twice {
			l = append(l, x)
		}
	}
	if twice {
		slices.Reverse(l)
	}
	return l
}

// P7.1: two sets of eight days each, at the first days and at the last ones.
func TestTwoOfAllSets(t *testing.T) {
	for _, from := range []int{1, end - 8} {
		var b []int
		for i := range 9 {
			b = append(b, from+i)
		}
		for x := range uint(256) {
			for y := range uint(256) {
				two(t, b, days(from, x, false), days(from, y, true))
			}
		}
	}
}

// widen are the days of a list and the k behind each, counted day by day from a day on, below another one: none of the list begins ahead of it.
func widen(l []api.Span, k, from, to int) []api.Span {
	var b []int
	for day := from; day <= to; day++ {
		b = append(b, day)
	}
	s := cells(b, l)
	r := make(set, len(s))
	for i, in := range s {
		for j := 0; in && j <= max(k, 0) && i+j < len(r); j++ {
			r[i+j] = b[i+j] < end
		}
	}
	return r.spansOf(b)
}

// P7.2: all sets of eight days, at the first days and at the last ones.
func TestWideOfAllSets(t *testing.T) {
	for _, from := range []int{1, 2, end - 20, end - 10, end - 9, end - 8} {
		for x := range uint(256) {
			l := days(from, x, true)
			for k := -2; k <= 12; k++ {
				told(t, spans.Wide(l, k), widen(l, k, from, min(from+30, end)), "wide of %v by %d", l, k)
			}
		}
	}
}

// What follows: Wide by one number and by another is Wide by both.
func TestWideTwice(t *testing.T) {
	for x := range uint(256) {
		l := days(1, x, false)
		for k := range 5 {
			for m := range 5 {
				told(t, spans.Wide(spans.Wide(l, k), m), spans.Wide(l, k+m), "wide of %v by %d, by %d", l, k, m)
			}
		}
	}
	for _, k := range []int{0, 1, last - 3, last - 2, last - 1, last, end, most} {
		told(t, spans.Wide(spans.Wide(of(1, 2), k), 1), spans.Wide(of(1, 2), min(k, last)+1), "wide by %d, by 1", k)
	}
}

// What follows: laws of sets, of lists that are not right.
func TestLaws(t *testing.T) {
	lists := append(none(), of(5, 7, 1, 3, 7, 9), of(3, 5, 3, 5), of(least, 4), of(last-3, most), of(least, most), of(2, 8, 4, 6), of(1, 2, 3, 4, 5, 6))
	for _, a := range lists {
		rest := spans.Less(spans.All(), a)
		told(t, spans.Less(spans.All(), rest), spans.Of(a), "all less all less %v", a)
		told(t, spans.Of(spans.Of(a)), spans.Of(a), "of of %v", a)
		if spans.Days(a)+spans.Days(rest) != spans.Days(spans.All()) {
			t.Error("days of", a, "and of the rest", rest)
		}
		for _, b := range lists {
			told(t, spans.Union(a, b), spans.Union(b, a), "union of %v, %v", a, b)
			told(t, spans.Union(a, b), spans.Of(append(slices.Clone(a), b...)), "union of %v, %v", a, b)
			told(t, spans.Meet(a, b), spans.Meet(b, a), "meet of %v, %v", a, b)
			told(t, spans.Meet(a, b), spans.Less(a, spans.Less(a, b)), "meet of %v, %v", a, b)
			told(t, spans.Less(a, b), spans.Meet(a, spans.Less(spans.All(), b)), "less of %v, %v", a, b)
		}
	}
}

// calls are all calls that tell spans, of two lists.
func calls() map[string]func(a, b []api.Span) []api.Span {
	return map[string]func(a, b []api.Span) []api.Span{
		"of":      func(a, _ []api.Span) []api.Span { return spans.Of(a) },
		"union":   spans.Union,
		"turned":  func(a, b []api.Span) []api.Span { return spans.Union(b, a) },
		"meet":    spans.Meet,
		"less":    spans.Less,
		"wide":    func(a, _ []api.Span) []api.Span { return spans.Wide(a, 2) },
		"wide by": func(a, _ []api.Span) []api.Span { return spans.Wide(a, 0) },
		"all":     func(_, _ []api.Span) []api.Span { return spans.All() },
	}
}

// spoil writes over a list, and what lies behind it in its memory.
func spoil(l []api.Span) {
	l = l[:cap(l)]
	for i := range l {
		l[i] = api.Span{From: -7, To: -7}
	}
}

// P7.1, P7.2: what is told is in memory of its own, and what is handed in stays, also what lies behind it in its memory.
func TestMemory(t *testing.T) {
	lists := [][]api.Span{of(1, 3, 5, 9, 12, 20), of(7, 9, 1, 3, 2, 5), of(1, end), of(5, 5, 3, 4), of(3, 4), {}, of(least, most, 3, 4)}
	for name, f := range calls() {
		for _, x := range lists {
			for _, y := range append(lists, nil) {
				a, b := append(slices.Clone(x), of(100, 200)...), append(slices.Clone(y), of(300, 400)...)
				wasA, wasB := slices.Clone(a), slices.Clone(b)
				first := f(a[:len(x)], b[:len(y)])
				want := slices.Clone(first)
				second := f(a[:len(x)], b[:len(y)])
				spoil(first)
				told(t, second, want, "%s of %v, %v, told twice", name, x, y)
				told(t, f(a[:len(x)], b[:len(y)]), want, "%s of %v, %v, told again", name, x, y)
				told(t, a, wasA, "%s of %v, %v: what was handed in", name, x, y)
				told(t, b, wasB, "%s of %v, %v: what was handed in", name, x, y)
				spoil(a)
				spoil(b)
				told(t, second, want, "%s of %v, %v, when what was handed in is written over", name, x, y)
			}
		}
	}
}

// P7.1, P7.2: what is handed in stays at the calls that tell no spans.
func TestAskedStays(t *testing.T) {
	l := of(7, 9, 1, 3, 9, 5, least, most)
	was := slices.Clone(l)
	spans.May(l)
	spans.Has(l, 8)
	spans.Days(l)
	told(t, l, was, "asked")
}

// P7.1: one list handed in as both.
func TestOneListTwice(t *testing.T) {
	l := of(7, 9, 1, 3, 2, 5)
	told(t, spans.Union(l, l), of(1, 5, 7, 9), "union")
	told(t, spans.Meet(l, l), of(1, 5, 7, 9), "meet")
	told(t, spans.Less(l, l), nil, "less")
	told(t, spans.Union(l, l[1:]), of(1, 5, 7, 9), "union with a piece of it")
	told(t, l, of(7, 9, 1, 3, 2, 5), "what was handed in")
}

// P7.1, P7.2: many spans are gone through once, not once for each.
func TestMany(t *testing.T) {
	const count = 200000
	var a, b []api.Span
	for i := count; i > 0; i-- {
		a = append(a, api.Span{From: 4 * i, To: 4*i + 1})
		b = append(b, api.Span{From: 4*i + 2, To: 4*i + 3})
	}
	if n := len(spans.Union(a, b)); n != 2*count {
		t.Error(n)
	}
	told(t, spans.Meet(a, b), nil, "meet of many")
	if n := spans.Days(spans.Less(a, b)); n != count {
		t.Error(n)
	}
	told(t, spans.Wide(a, 3), of(4, 4*count+4), "wide of many")
	if spans.Days(spans.Wide(a, 2)) != 3*count {
		t.Error(spans.Days(spans.Wide(a, 2)))
	}
}
