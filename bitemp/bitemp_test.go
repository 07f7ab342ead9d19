package bitemp_test

import (
	"fmt"
	"math"
	"math/rand"
	"slices"
	"strings"
	"testing"

	"corrody/api"
	"corrody/bitemp"
	"corrody/timeline"
)

const (
	most  = math.MaxInt
	least = math.MinInt
	first = api.FirstDay
	last  = api.LastDay
	end   = api.End

	// A day amidst.
	far = api.FirstDay + api.MaxItems
)

// span is a span of its two numbers.
func span(from, to int) api.Span { return api.Span{From: from, To: to} }

// all are all days.
func all() api.Span { return span(first, end) }

// of are the spans from each number on, below the one behind it.
func of(bounds ...int) []api.Span {
	var l []api.Span
	for i := 0; i < len(bounds); i += 2 {
		l = append(l, span(bounds[i], bounds[i+1]))
	}
	return l
}

// segs are segments of whole numbers side by side: from a day on, to each day with the value behind it.
func segs(from int, steps ...int) []api.Seg[int] {
	var l []api.Seg[int]
	for i := 0; i < len(steps); i += 2 {
		l = append(l, api.Seg[int]{From: from, To: steps[i], V: steps[i+1]})
		from = steps[i]
	}
	return l
}

// versions are those of whole numbers: at each transaction the value behind it.
func versions(steps ...int) []api.Version[int] {
	var l []api.Version[int]
	for i := 0; i < len(steps); i += 2 {
		l = append(l, api.Version[int]{T: steps[i], V: steps[i+1]})
	}
	return l
}

// refused are spans that may not be.
func refused() []api.Span {
	return []api.Span{
		// From is below FirstDay.
		span(0, 1), span(0, 2), span(0, 5), span(0, end), span(-1, 5), span(-7, -3), span(-1, end), span(least, 5), span(least, end), span(least, least+1),
		// To is beyond End.
		span(1, end+1), span(5, end+1), span(last, end+1), span(end, end+1), span(end+1, end+2), span(end, most), span(1, most), span(last, most), span(most-1, most),
		// Both.
		span(0, end+1), span(-1, end+7), span(least, most),
		// Empty.
		span(0, 0), span(1, 1), span(5, 5), span(far, far), span(last, last), span(end, end), span(end+1, end+1), span(-3, -3), span(least, least), span(most, most),
		// Backwards.
		span(1, 0), span(2, 1), span(5, 4), span(9, 1), span(last, 1), span(end, 1), span(end, last), span(1, -1), span(5, least), span(most, 5), span(most, 1), span(most, end), span(1, least), span(most, least), span(end+1, end),
	}
}

// none are days that are none.
func none() []int {
	return []int{0, -1, -2, -1000, end, end + 1, end + 1000, least, least + 1, most, most - 1}
}

// some are spans that may be.
func some() []api.Span {
	return []api.Span{all(), span(1, 2), span(1, 3), span(2, 3), span(1, 10), span(4, 6), span(5, 9), span(last, end), span(last-1, end), span(last-1, last), span(2, last), span(far-1, far+1), span(1, last), span(2, end)}
}

// put are days that are given a value from a transaction on.
type put[V comparable] struct {
	t, from, to int
	v           V
}

// both are a store, and all that was put to it.
type both[V comparable] struct {
	t     *testing.T
	store *bitemp.Store[V]
	puts  []put[V]
}

// filled is a store to which was put.
func filled[V comparable](t *testing.T, puts ...put[V]) *both[V] {
	t.Helper()
	b := &both[V]{t: t, store: bitemp.New[V]()}
	for _, p := range puts {
		b.put(p)
	}
	return b
}

// puts are what is put to a store of whole numbers: the transaction, both ends of the days, and the value.
func puts(steps ...int) []put[int] {
	var l []put[int]
	for i := 0; i < len(steps); i += 4 {
		l = append(l, put[int]{steps[i], steps[i+1], steps[i+2], steps[i+3]})
	}
	return l
}

func (b *both[V]) put(p put[V]) {
	b.t.Helper()
	if e := b.store.Put(p.t, span(p.from, p.to), p.v); e != api.OK {
		b.t.Fatalf("put %v behind %v: %d", p, b.puts, e)
	}
	b.puts = append(b.puts, p)
}

// at is the value at a transaction on a day: what was put there last, up to it.
func (b *both[V]) at(t, day int) V {
	for _, p := range slices.Backward(b.puts) {
		if p.t <= t && p.from <= day && day < p.to {
			return p.v
		}
	}
	var zero V
	return zero
}

// last is the last transaction.
func (b *both[V]) last() int {
	if len(b.puts) == 0 {
		return 0
	}
	return b.puts[len(b.puts)-1].t
}

// rising are some numbers between two, each once.
func rising(from, to int, l []int) []int {
	slices.Sort(l)
	return slices.DeleteFunc(slices.Compact(l), func(n int) bool { return n < from || n > to })
}

// days are all days at which something that was put begins or ends, those beside them, and both ends of all days: rising, each once.
func (b *both[V]) days() []int {
	l := []int{first, last, end}
	for _, p := range b.puts {
		l = append(l, p.from-1, p.from, p.from+1, p.to-1, p.to, p.to+1)
	}
	return rising(first, end, l)
}

// times are the transactions at which something was put, those beside them, and some that are none: rising, each once.
func (b *both[V]) times() []int {
	l := []int{least, least + 1, -1, 0, 1, most - 1, most}
	for _, p := range b.puts {
		l = append(l, p.t-1, p.t)
		if p.t < most {
			l = append(l, p.t+1)
		}
	}
	return rising(least, most, l)
}

// segs are the segments of a transaction over a span: it is cut where the value is another one than on the day ahead.
func (b *both[V]) segs(t int, s api.Span) []api.Seg[V] {
	l := []api.Seg[V]{{From: s.From, V: b.at(t, s.From)}}
	for _, day := range b.days() {
		if v := b.at(t, day); s.From < day && day < s.To && v != l[len(l)-1].V {
			l[len(l)-1].To = day
			l = append(l, api.Seg[V]{From: day, V: v})
		}
	}
	l[len(l)-1].To = s.To
	return l
}

// history are the versions of a day: a transaction's value is held against that at the one ahead.
func (b *both[V]) history(day int) []api.Version[V] {
	var l []api.Version[V]
	for _, t := range b.times() {
		if t > 0 && b.at(t, day) != b.at(t-1, day) {
			l = append(l, api.Version[V]{T: t, V: b.at(t, day)})
		}
	}
	return l
}

// changed are the days on which a transaction's values are others than those at the one ahead.
func (b *both[V]) changed(t int) []api.Span {
	var l []api.Span
	days := b.days()
	for i, day := range days[:len(days)-1] {
		if t < 1 || b.at(t, day) == b.at(t-1, day) {
			continue
		}
		if n := len(l); n > 0 && l[n-1].To == day {
			l[n-1].To = days[i+1]
		} else {
			l = append(l, span(day, days[i+1]))
		}
	}
	return l
}

// holdSegs holds the segments of a transaction over a span against what was put.
func (b *both[V]) holdSegs(t int, s api.Span) {
	b.t.Helper()
	if l, want := b.store.Segs(t, s), b.segs(t, s); !slices.Equal(l, want) {
		b.t.Fatalf("segs %d, %v of %v: %v, not %v", t, s, b.puts, l, want)
	}
}

// holdLine holds a transaction's timeline against what was put.
func (b *both[V]) holdLine(t int, line *timeline.Timeline[V]) {
	b.t.Helper()
	want := b.segs(t, all())
	if l := line.Segs(all()); !slices.Equal(l, want) {
		b.t.Fatalf("line %d of %v: %v, not %v", t, b.puts, l, want)
	}
	var zero V
	count := 0
	for _, x := range want {
		if x.V != zero {
			count++
		}
	}
	if line.Pieces() != count {
		b.t.Fatalf("line %d of %v: %d pieces, not %d", t, b.puts, line.Pieces(), count)
	}
}

// holdTimes holds all that is told of transactions against what was put.
func (b *both[V]) holdTimes() {
	b.t.Helper()
	if n := b.store.Last(); n != b.last() {
		b.t.Fatalf("last of %v: %d", b.puts, n)
	}
	for _, t := range b.times() {
		for _, day := range b.days() {
			if v := b.store.At(t, day); day < end && v != b.at(t, day) {
				b.t.Fatalf("at %d, %d of %v: %v, not %v", t, day, b.puts, v, b.at(t, day))
			}
		}
		b.holdSegs(t, all())
		b.holdLine(t, b.store.Line(t))
		if l, want := b.store.Changed(t), b.changed(t); !slices.Equal(l, want) {
			b.t.Fatalf("changed %d of %v: %v, not %v", t, b.puts, l, want)
		}
	}
}

// holdDays holds the histories of days against what was put.
func (b *both[V]) holdDays() {
	b.t.Helper()
	for _, day := range b.days() {
		var want []api.Version[V]
		if day < end {
			want = b.history(day)
		}
		if l := b.store.History(day); !slices.Equal(l, want) {
			b.t.Fatalf("history %d of %v: %v, not %v", day, b.puts, l, want)
		}
	}
	var zero V
	for _, day := range none() {
		if l := b.store.History(day); len(l) > 0 {
			b.t.Fatalf("history %d, which is no day, of %v: %v", day, b.puts, l)
		}
		for _, t := range b.times() {
			if v := b.store.At(t, day); v != zero {
				b.t.Fatalf("at %d, %d, which is no day, of %v: %v", t, day, b.puts, v)
			}
		}
	}
}

// has is whether a rectangle has a transaction and a day.
func has[V comparable](x api.Rect[V], t, day int) bool {
	return x.From <= day && day < x.To && x.Since <= t && (x.Until == 0 || t < x.Until)
}

// holdRects holds the rectangles against their words, and against what was put.
func (b *both[V]) holdRects() {
	b.t.Helper()
	l := b.store.Rects()
	days, times := b.days(), []int{0, 1, b.last()}
	for _, p := range b.puts {
		times = append(times, p.t-1, p.t)
	}
	var zero V
	for i, x := range l {
		if x.V == zero || x.From < first || x.From >= x.To || x.To > end || x.Since < 1 || x.Since > b.last() || x.Until != 0 && (x.Until <= x.Since || x.Until > b.last()) {
			b.t.Fatalf("rects of %v: %v", b.puts, x)
		}
		if i > 0 && (l[i-1].From > x.From || l[i-1].From == x.From && l[i-1].Since >= x.Since) {
			b.t.Fatalf("rects of %v: %v is behind %v", b.puts, x, l[i-1])
		}
		days = append(days, x.From, x.To)
		times = append(times, x.Since, max(x.Until, 1))
	}
	// All bounds are among them, so what lies between two is as its least day and transaction.
	days, times = rising(first, last, days), rising(0, b.last(), times)
	for _, day := range days {
		var there []api.Rect[V]
		for _, x := range l {
			if x.From <= day && day < x.To {
				there = append(there, x)
			}
		}
		for _, t := range times {
			v, count := zero, 0
			for _, x := range there {
				if has(x, t, day) {
					v = x.V
					count++
				}
			}
			if v != b.at(t, day) || count > 1 {
				b.t.Fatalf("rects of %v: %v: %d have %d, %d: %v, not %v", b.puts, l, count, t, day, v, b.at(t, day))
			}
		}
	}
}

// hold holds all that may be told against what was put; segments over each span between days on which something changes.
func (b *both[V]) hold() {
	b.t.Helper()
	b.holdTimes()
	b.holdDays()
	b.holdRects()
	days := b.days()
	for _, t := range b.times() {
		for i, from := range days {
			for _, to := range days[i+1:] {
				b.holdSegs(t, span(from, to))
			}
		}
		for _, s := range refused() {
			if l := b.store.Segs(t, s); len(l) > 0 {
				b.t.Fatalf("segs %d, %v of %v: %v", t, s, b.puts, l)
			}
		}
	}
}

// whole holds all that may be told against what was put, but segments over spans other than all days.
func (b *both[V]) whole() {
	b.t.Helper()
	b.holdTimes()
	b.holdDays()
	b.holdRects()
}

// empty holds that a store is as one at first.
func empty[V comparable](t *testing.T, s *bitemp.Store[V]) {
	t.Helper()
	var zero V
	if n := s.Last(); n != 0 {
		t.Errorf("last: %d", n)
	}
	for _, tr := range []int{least, -1, 0, 1, 2, most} {
		for _, day := range append(none(), 1, 2, 5, far, last-1, last) {
			if v := s.At(tr, day); v != zero {
				t.Errorf("at %d, %d: %v", tr, day, v)
			}
			if l := s.History(day); len(l) > 0 {
				t.Errorf("history %d: %v", day, l)
			}
		}
		for _, x := range some() {
			if l := s.Segs(tr, x); !slices.Equal(l, []api.Seg[V]{{From: x.From, To: x.To}}) {
				t.Errorf("segs %d, %v: %v", tr, x, l)
			}
		}
		for _, x := range refused() {
			if l := s.Segs(tr, x); len(l) > 0 {
				t.Errorf("segs %d, %v: %v", tr, x, l)
			}
		}
		line := s.Line(tr)
		if line == nil || line.Put(span(3, 5), zero) != api.OK || !timeline.Same(line, timeline.New[V]()) {
			t.Errorf("line %d is not as one at first", tr)
		}
		if l := s.Changed(tr); len(l) > 0 {
			t.Errorf("changed %d: %v", tr, l)
		}
	}
	if l := s.Rects(); len(l) > 0 {
		t.Errorf("rects: %v", l)
	}
}

// P13.1, P13.2, P13.3
func TestAtFirst(t *testing.T) {
	if bitemp.New[int]() == nil {
		t.Fatal("New is not there")
	}
	empty(t, bitemp.New[int]())
	empty(t, bitemp.New[string]())
	empty(t, bitemp.New[bool]())
	empty(t, bitemp.New[api.Value]())
	filled[int](t).hold()
}

// P13.1: what is put to one that is new is not of another one.
func TestNewOnes(t *testing.T) {
	a, b := filled[int](t), filled[int](t)
	a.put(put[int]{1, 3, 7, 5})
	b.put(put[int]{2, 4, last, 6})
	a.put(put[int]{3, 4, 5, 6})
	a.hold()
	b.hold()
	empty(t, bitemp.New[int]())
}

// P13.1, P13.2, P13.3: each, and what is told of it by hand: segments over days 1 to 12 of transactions, histories of days, and days that are changed.
func TestPut(t *testing.T) {
	type segments struct {
		t int
		l []api.Seg[int]
	}
	type history struct {
		day int
		l   []api.Version[int]
	}
	type changes struct {
		t int
		l []api.Span
	}
	for _, c := range []struct {
		what    string
		puts    []put[int]
		segs    []segments
		history []history
		changed []changes
	}{
		{"one", puts(1, 3, 7, 5),
			[]segments{{0, segs(1, 12, 0)}, {1, segs(1, 3, 0, 7, 5, 12, 0)}, {2, segs(1, 3, 0, 7, 5, 12, 0)}},
			[]history{{2, nil}, {3, versions(1, 5)}, {6, versions(1, 5)}, {7, nil}},
			[]changes{{0, nil}, {1, of(3, 7)}, {2, nil}}},
		{"one at a later transaction", puts(7, 3, 7, 5),
			[]segments{{0, segs(1, 12, 0)}, {6, segs(1, 12, 0)}, {7, segs(1, 3, 0, 7, 5, 12, 0)}, {8, segs(1, 3, 0, 7, 5, 12, 0)}},
			[]history{{3, versions(7, 5)}},
			[]changes{{1, nil}, {6, nil}, {7, of(3, 7)}, {8, nil}}},
		{"one of the zero value", puts(2, 3, 7, 0),
			[]segments{{2, segs(1, 12, 0)}},
			[]history{{3, nil}},
			[]changes{{2, nil}}},
		{"two at one transaction, apart", puts(1, 3, 5, 5, 1, 7, 9, 6),
			[]segments{{0, segs(1, 12, 0)}, {1, segs(1, 3, 0, 5, 5, 7, 0, 9, 6, 12, 0)}},
			[]history{{4, versions(1, 5)}, {6, nil}, {8, versions(1, 6)}},
			[]changes{{1, of(3, 5, 7, 9)}}},
		{"two at one transaction, beside each other", puts(1, 3, 5, 5, 1, 5, 9, 6),
			[]segments{{1, segs(1, 3, 0, 5, 5, 9, 6, 12, 0)}},
			[]history{{4, versions(1, 5)}, {5, versions(1, 6)}},
			[]changes{{1, of(3, 9)}}},
		{"two at one transaction, beside each other, of the same value", puts(1, 3, 5, 5, 1, 5, 9, 5),
			[]segments{{1, segs(1, 3, 0, 9, 5, 12, 0)}},
			[]history{{4, versions(1, 5)}, {5, versions(1, 5)}},
			[]changes{{1, of(3, 9)}}},
		{"two at one transaction, one over the other", puts(1, 3, 9, 5, 1, 5, 7, 6),
			[]segments{{1, segs(1, 3, 0, 5, 5, 7, 6, 9, 5, 12, 0)}},
			[]history{{4, versions(1, 5)}, {5, versions(1, 6)}},
			[]changes{{1, of(3, 9)}}},
		{"two at one transaction, the second one undoes the first one", puts(1, 3, 9, 5, 1, 3, 9, 0),
			[]segments{{0, segs(1, 12, 0)}, {1, segs(1, 12, 0)}},
			[]history{{3, nil}},
			[]changes{{1, nil}}},
		{"two at one transaction, the second one undoes a part of the first one", puts(1, 3, 9, 5, 1, 5, 7, 0),
			[]segments{{1, segs(1, 3, 0, 5, 5, 7, 0, 9, 5, 12, 0)}},
			[]history{{4, versions(1, 5)}, {5, nil}, {7, versions(1, 5)}},
			[]changes{{1, of(3, 5, 7, 9)}}},
		{"two at one transaction, the second one brings back what was there ahead", puts(1, 3, 9, 5, 2, 4, 8, 6, 2, 4, 8, 5),
			[]segments{{1, segs(1, 3, 0, 9, 5, 12, 0)}, {2, segs(1, 3, 0, 9, 5, 12, 0)}},
			[]history{{4, versions(1, 5)}},
			[]changes{{1, of(3, 9)}, {2, nil}}},
		{"two at one transaction, the second one brings back a part of it", puts(1, 3, 9, 5, 2, 4, 8, 6, 2, 5, 7, 5),
			[]segments{{1, segs(1, 3, 0, 9, 5, 12, 0)}, {2, segs(1, 3, 0, 4, 5, 5, 6, 7, 5, 8, 6, 9, 5, 12, 0)}},
			[]history{{3, versions(1, 5)}, {4, versions(1, 5, 2, 6)}, {5, versions(1, 5)}},
			[]changes{{2, of(4, 5, 7, 8)}}},
		{"the zero value, then what was there ahead, at one transaction", puts(1, 3, 9, 5, 2, 4, 8, 0, 2, 1, 12, 5),
			[]segments{{1, segs(1, 3, 0, 9, 5, 12, 0)}, {2, segs(1, 12, 5)}},
			[]history{{2, versions(2, 5)}, {3, versions(1, 5)}, {4, versions(1, 5)}},
			[]changes{{2, of(1, 3, 9, 12)}}},
		{"something, then the zero value over what was there ahead, at one transaction", puts(1, 3, 9, 5, 2, 4, 8, 6, 2, 1, 12, 0),
			[]segments{{1, segs(1, 3, 0, 9, 5, 12, 0)}, {2, segs(1, 12, 0)}},
			[]history{{3, versions(1, 5, 2, 0)}, {4, versions(1, 5, 2, 0)}},
			[]changes{{2, of(3, 9)}}},

		{"the same days again", puts(1, 3, 7, 5, 2, 3, 7, 6),
			[]segments{{1, segs(1, 3, 0, 7, 5, 12, 0)}, {2, segs(1, 3, 0, 7, 6, 12, 0)}},
			[]history{{3, versions(1, 5, 2, 6)}, {7, nil}},
			[]changes{{1, of(3, 7)}, {2, of(3, 7)}, {3, nil}}},
		{"inside, transactions left out", puts(1, 1, 10, 5, 3, 4, 6, 7),
			[]segments{{1, segs(1, 10, 5, 12, 0)}, {2, segs(1, 10, 5, 12, 0)}, {3, segs(1, 4, 5, 6, 7, 10, 5, 12, 0)}, {4, segs(1, 4, 5, 6, 7, 10, 5, 12, 0)}},
			[]history{{3, versions(1, 5)}, {4, versions(1, 5, 3, 7)}, {6, versions(1, 5)}},
			[]changes{{1, of(1, 10)}, {2, nil}, {3, of(4, 6)}, {4, nil}}},
		{"over a begin", puts(1, 5, 9, 5, 2, 3, 7, 6),
			[]segments{{1, segs(1, 5, 0, 9, 5, 12, 0)}, {2, segs(1, 3, 0, 7, 6, 9, 5, 12, 0)}},
			[]history{{3, versions(2, 6)}, {5, versions(1, 5, 2, 6)}, {7, versions(1, 5)}},
			[]changes{{2, of(3, 7)}}},
		{"over an end", puts(1, 3, 7, 5, 2, 5, 9, 6),
			[]segments{{1, segs(1, 3, 0, 7, 5, 12, 0)}, {2, segs(1, 3, 0, 5, 5, 9, 6, 12, 0)}},
			[]history{{3, versions(1, 5)}, {6, versions(1, 5, 2, 6)}, {7, versions(2, 6)}},
			[]changes{{2, of(5, 9)}}},
		{"over an end, of the same value", puts(1, 3, 7, 5, 2, 5, 9, 5),
			[]segments{{1, segs(1, 3, 0, 7, 5, 12, 0)}, {2, segs(1, 3, 0, 9, 5, 12, 0)}},
			[]history{{6, versions(1, 5)}, {7, versions(2, 5)}},
			[]changes{{2, of(7, 9)}}},
		{"around", puts(1, 5, 7, 5, 2, 3, 9, 6),
			[]segments{{1, segs(1, 5, 0, 7, 5, 12, 0)}, {2, segs(1, 3, 0, 9, 6, 12, 0)}},
			[]history{{3, versions(2, 6)}, {5, versions(1, 5, 2, 6)}},
			[]changes{{2, of(3, 9)}}},
		{"around, of the same value", puts(1, 5, 7, 5, 2, 3, 9, 5),
			[]segments{{1, segs(1, 5, 0, 7, 5, 12, 0)}, {2, segs(1, 3, 0, 9, 5, 12, 0)}},
			[]history{{3, versions(2, 5)}, {5, versions(1, 5)}},
			[]changes{{2, of(3, 5, 7, 9)}}},
		{"beside, ahead and behind", puts(1, 5, 7, 5, 2, 7, 9, 6, 3, 3, 5, 4),
			[]segments{{2, segs(1, 5, 0, 7, 5, 9, 6, 12, 0)}, {3, segs(1, 3, 0, 5, 4, 7, 5, 9, 6, 12, 0)}},
			[]history{{4, versions(3, 4)}, {5, versions(1, 5)}, {7, versions(2, 6)}},
			[]changes{{2, of(7, 9)}, {3, of(3, 5)}}},
		{"beside, of the same value", puts(1, 5, 7, 5, 2, 7, 9, 5),
			[]segments{{1, segs(1, 5, 0, 7, 5, 12, 0)}, {2, segs(1, 5, 0, 9, 5, 12, 0)}},
			[]history{{6, versions(1, 5)}, {7, versions(2, 5)}},
			[]changes{{2, of(7, 9)}}},
		{"around several", puts(1, 2, 4, 5, 2, 5, 7, 6, 3, 8, 10, 7, 5, 3, 9, 1),
			[]segments{{3, segs(1, 2, 0, 4, 5, 5, 0, 7, 6, 8, 0, 10, 7, 12, 0)}, {4, segs(1, 2, 0, 4, 5, 5, 0, 7, 6, 8, 0, 10, 7, 12, 0)}, {5, segs(1, 2, 0, 3, 5, 9, 1, 10, 7, 12, 0)}},
			[]history{{2, versions(1, 5)}, {3, versions(1, 5, 5, 1)}, {4, versions(5, 1)}, {6, versions(2, 6, 5, 1)}, {8, versions(3, 7, 5, 1)}, {9, versions(3, 7)}},
			[]changes{{4, nil}, {5, of(3, 9)}}},

		{"what is there, once more", puts(1, 3, 7, 5, 2, 3, 7, 5),
			[]segments{{1, segs(1, 3, 0, 7, 5, 12, 0)}, {2, segs(1, 3, 0, 7, 5, 12, 0)}},
			[]history{{3, versions(1, 5)}},
			[]changes{{1, of(3, 7)}, {2, nil}}},
		{"a part of what is there, once more", puts(1, 3, 7, 5, 2, 4, 6, 5, 4, 6, 7, 5),
			[]segments{{1, segs(1, 3, 0, 7, 5, 12, 0)}, {2, segs(1, 3, 0, 7, 5, 12, 0)}, {4, segs(1, 3, 0, 7, 5, 12, 0)}},
			[]history{{4, versions(1, 5)}, {6, versions(1, 5)}},
			[]changes{{2, nil}, {4, nil}}},
		{"the zero value, over others", puts(1, 3, 5, 5, 1, 7, 9, 6, 2, 4, 8, 0),
			[]segments{{1, segs(1, 3, 0, 5, 5, 7, 0, 9, 6, 12, 0)}, {2, segs(1, 3, 0, 4, 5, 8, 0, 9, 6, 12, 0)}},
			[]history{{3, versions(1, 5)}, {4, versions(1, 5, 2, 0)}, {5, nil}, {7, versions(1, 6, 2, 0)}, {8, versions(1, 6)}},
			[]changes{{2, of(4, 5, 7, 8)}}},
		{"taken back", puts(1, 3, 7, 5, 2, 3, 7, 0),
			[]segments{{0, segs(1, 12, 0)}, {1, segs(1, 3, 0, 7, 5, 12, 0)}, {2, segs(1, 12, 0)}, {3, segs(1, 12, 0)}},
			[]history{{3, versions(1, 5, 2, 0)}},
			[]changes{{1, of(3, 7)}, {2, of(3, 7)}, {3, nil}}},
		{"taken back, and put again", puts(1, 3, 7, 5, 2, 3, 7, 0, 5, 3, 7, 5),
			[]segments{{1, segs(1, 3, 0, 7, 5, 12, 0)}, {2, segs(1, 12, 0)}, {4, segs(1, 12, 0)}, {5, segs(1, 3, 0, 7, 5, 12, 0)}},
			[]history{{3, versions(1, 5, 2, 0, 5, 5)}},
			[]changes{{1, of(3, 7)}, {2, of(3, 7)}, {3, nil}, {5, of(3, 7)}}},
		{"taken back, and put again, at the next transactions", puts(3, 3, 7, 5, 4, 3, 7, 0, 5, 3, 7, 5, 6, 3, 7, 0),
			[]segments{{3, segs(1, 3, 0, 7, 5, 12, 0)}, {4, segs(1, 12, 0)}, {5, segs(1, 3, 0, 7, 5, 12, 0)}, {6, segs(1, 12, 0)}},
			[]history{{3, versions(3, 5, 4, 0, 5, 5, 6, 0)}},
			[]changes{{3, of(3, 7)}, {4, of(3, 7)}, {5, of(3, 7)}, {6, of(3, 7)}}},
		{"taken back twice", puts(1, 3, 7, 5, 2, 3, 7, 0, 3, 3, 7, 0),
			[]segments{{2, segs(1, 12, 0)}, {3, segs(1, 12, 0)}},
			[]history{{3, versions(1, 5, 2, 0)}},
			[]changes{{2, of(3, 7)}, {3, nil}}},
		{"taken back and put again at one transaction", puts(1, 3, 7, 5, 2, 3, 7, 0, 2, 3, 7, 5),
			[]segments{{1, segs(1, 3, 0, 7, 5, 12, 0)}, {2, segs(1, 3, 0, 7, 5, 12, 0)}},
			[]history{{3, versions(1, 5)}},
			[]changes{{2, nil}}},
		{"again and again", puts(1, 4, 5, 1, 2, 4, 5, 2, 3, 4, 5, 1, 4, 4, 5, 1, 5, 4, 5, 2, 9, 4, 5, 2, 10, 4, 5, 1),
			[]segments{{1, segs(1, 4, 0, 5, 1, 12, 0)}, {2, segs(1, 4, 0, 5, 2, 12, 0)}, {4, segs(1, 4, 0, 5, 1, 12, 0)}, {9, segs(1, 4, 0, 5, 2, 12, 0)}, {10, segs(1, 4, 0, 5, 1, 12, 0)}},
			[]history{{3, nil}, {4, versions(1, 1, 2, 2, 3, 1, 5, 2, 10, 1)}, {5, nil}},
			[]changes{{4, nil}, {5, of(4, 5)}, {6, nil}, {9, nil}, {10, of(4, 5)}}},
		{"to and fro within one transaction", puts(1, 4, 5, 1, 2, 4, 5, 2, 2, 4, 5, 1, 2, 4, 5, 3, 2, 4, 5, 0, 2, 4, 5, 1, 3, 4, 5, 1),
			[]segments{{1, segs(1, 4, 0, 5, 1, 12, 0)}, {2, segs(1, 4, 0, 5, 1, 12, 0)}, {3, segs(1, 4, 0, 5, 1, 12, 0)}},
			[]history{{4, versions(1, 1)}},
			[]changes{{1, of(4, 5)}, {2, nil}, {3, nil}}},

		{"FirstDay", puts(1, 1, 2, 5),
			[]segments{{1, segs(1, 2, 5, 12, 0)}},
			[]history{{0, nil}, {1, versions(1, 5)}, {2, nil}},
			[]changes{{1, of(1, 2)}}},
		{"LastDay", puts(1, last, end, 5, 4, last, end, 6),
			[]segments{{1, segs(1, 12, 0)}},
			[]history{{last - 1, nil}, {last, versions(1, 5, 4, 6)}, {end, nil}},
			[]changes{{1, of(last, end)}, {4, of(last, end)}}},
		{"all days", puts(1, 1, end, 5, 2, 1, end, 6, 3, 1, end, 0),
			[]segments{{0, segs(1, 12, 0)}, {1, segs(1, 12, 5)}, {2, segs(1, 12, 6)}, {3, segs(1, 12, 0)}},
			[]history{{0, nil}, {1, versions(1, 5, 2, 6, 3, 0)}, {far, versions(1, 5, 2, 6, 3, 0)}, {last, versions(1, 5, 2, 6, 3, 0)}, {end, nil}},
			[]changes{{1, of(1, end)}, {2, of(1, end)}, {3, of(1, end)}}},
		{"all days, around both ends", puts(1, 1, 2, 5, 1, last, end, 5, 2, 1, end, 5),
			[]segments{{1, segs(1, 2, 5, 12, 0)}, {2, segs(1, 12, 5)}},
			[]history{{1, versions(1, 5)}, {2, versions(2, 5)}, {last, versions(1, 5)}},
			[]changes{{1, of(1, 2, last, end)}, {2, of(2, last)}}},
		{"values below nought, and the least and the greatest", puts(1, 3, 7, least, 2, 3, 7, -1, 3, 3, 7, most),
			[]segments{{1, segs(1, 3, 0, 7, least, 12, 0)}, {2, segs(1, 3, 0, 7, -1, 12, 0)}, {3, segs(1, 3, 0, 7, most, 12, 0)}},
			[]history{{3, versions(1, least, 2, -1, 3, most)}},
			[]changes{{2, of(3, 7)}}},
		{"the greatest transactions", puts(1, 3, 9, 5, most-1, 4, 8, 6, most, 5, 7, 7, most, 6, 7, 8),
			[]segments{{most - 2, segs(1, 3, 0, 9, 5, 12, 0)}, {most - 1, segs(1, 3, 0, 4, 5, 8, 6, 9, 5, 12, 0)}, {most, segs(1, 3, 0, 4, 5, 5, 6, 6, 7, 7, 8, 8, 6, 9, 5, 12, 0)}},
			[]history{{6, versions(1, 5, most-1, 6, most, 8)}},
			[]changes{{most - 2, nil}, {most - 1, of(4, 8)}, {most, of(5, 7)}, {least, nil}}},
		{"taken back at the greatest transaction", puts(most-1, 3, 9, 5, most, 4, 8, 0),
			[]segments{{least, segs(1, 12, 0)}, {most - 1, segs(1, 3, 0, 9, 5, 12, 0)}, {most, segs(1, 3, 0, 4, 5, 8, 0, 9, 5, 12, 0)}},
			[]history{{3, versions(most-1, 5)}, {6, versions(most-1, 5, most, 0)}},
			[]changes{{most - 1, of(3, 9)}, {most, of(4, 8)}}},
	} {
		b := filled[int](t)
		for _, p := range c.puts {
			b.put(p)
			b.whole()
		}
		b.hold()
		for _, x := range c.segs {
			if l := b.store.Segs(x.t, span(1, 12)); !slices.Equal(l, x.l) {
				t.Errorf("%s: segs %d: %v, not %v", c.what, x.t, l, x.l)
			}
		}
		for _, x := range c.history {
			if l := b.store.History(x.day); !slices.Equal(l, x.l) {
				t.Errorf("%s: history %d: %v, not %v", c.what, x.day, l, x.l)
			}
		}
		for _, x := range c.changed {
			if l := b.store.Changed(x.t); !slices.Equal(l, x.l) {
				t.Errorf("%s: changed %d: %v, not %v", c.what, x.t, l, x.l)
			}
		}
	}
}

// P13.1: Last is that of the last put, even if it changed nothing.
func TestLast(t *testing.T) {
	s := bitemp.New[int]()
	for _, c := range []struct{ t, v int }{{1, 0}, {1, 5}, {1, 5}, {2, 5}, {4, 0}, {4, 0}, {9, 0}, {1000000, 1}, {most - 1, 1}, {most, 1}, {most, 2}, {most, 2}} {
		if e := s.Put(c.t, span(3, 7), c.v); e != api.OK || s.Last() != c.t {
			t.Errorf("put at %d: %d, last %d", c.t, e, s.Last())
		}
	}
}

// P13.1: at wrong transactions and on wrong days nothing is put, and the transaction's error is told first.
func TestRefused(t *testing.T) {
	for _, c := range []struct {
		puts []put[int]
		no   []int
		yes  []int
	}{
		{nil, []int{0, -1, -2, least, least + 1}, []int{1, 2, most}},
		{puts(1, 3, 7, 5), []int{0, -1, least}, []int{1, 2, most}},
		{puts(5, 3, 7, 5), []int{4, 3, 1, 0, -1, -5, least, least + 1}, []int{5, 6, most}},
		{puts(1, 3, 7, 5, 2, 1, end, 6, 8, 4, 5, 0), []int{7, 2, 1, 0, -8, least}, []int{8, 9, most}},
		{puts(most, 3, 7, 5), []int{most - 1, 1, 0, -1, least}, []int{most}},
	} {
		b := filled(t, c.puts...)
		b.whole()
		for _, v := range []int{7, 5, 0} {
			for _, at := range c.no {
				for _, s := range append(some(), refused()...) {
					if e := b.store.Put(at, s, v); e != api.ErrArg {
						t.Errorf("put at %d, %v, behind %v: %d", at, s, c.puts, e)
					}
				}
			}
			for _, at := range c.yes {
				for _, s := range refused() {
					if e := b.store.Put(at, s, v); e != api.ErrSpan {
						t.Errorf("put at %d, %v, behind %v: %d", at, s, c.puts, e)
					}
				}
			}
		}
		b.hold()
		// The transaction of what was refused is not the last one: an earlier one may come behind it.
		b.put(put[int]{c.yes[0], 4, 8, 9})
		b.hold()
	}
}

// P13.1, P13.2, P13.3: of a store that is not there, or was not made.
func TestUnmade(t *testing.T) {
	var made bitemp.Store[int]
	for i, s := range []*bitemp.Store[int]{nil, {}, &made, new(bitemp.Store[int])} {
		for _, at := range []int{least, -1, 0, 1, 2, most} {
			for _, x := range append(some(), refused()...) {
				if e := s.Put(at, x, 5); e != api.ErrNil {
					t.Errorf("%d: put at %d, %v: %d", i, at, x, e)
				}
			}
		}
		empty(t, s)
	}
	empty[string](t, nil)
	empty(t, &bitemp.Store[api.Value]{})
}

// P13.2: At and Segs at transactions and on days of all kinds.
func TestAtAndSegs(t *testing.T) {
	b := filled(t, puts(2, 3, 9, 5, 4, 5, 7, 6, 4, 12, 14, 5, 7, 1, 4, 0, 7, last, end, 8)...)
	for _, c := range []struct {
		times []int
		want  []api.Seg[int]
	}{
		{[]int{least, least + 1, -7, -1, 0, 1}, segs(1, end, 0)},
		{[]int{2, 3}, segs(1, 3, 0, 9, 5, end, 0)},
		{[]int{4, 5, 6}, segs(1, 3, 0, 5, 5, 7, 6, 9, 5, 12, 0, 14, 5, end, 0)},
		{[]int{7, 8, 1000, most - 1, most}, segs(1, 4, 0, 5, 5, 7, 6, 9, 5, 12, 0, 14, 5, last, 0, end, 8)},
	} {
		for _, at := range c.times {
			if l := b.store.Segs(at, all()); !slices.Equal(l, c.want) {
				t.Errorf("segs %d: %v, not %v", at, l, c.want)
			}
			for _, x := range c.want {
				for _, day := range []int{x.From, x.To - 1, (x.From + x.To) / 2} {
					if v := b.store.At(at, day); v != x.V {
						t.Errorf("at %d, %d: %d, not %d", at, day, v, x.V)
					}
				}
			}
			for _, day := range none() {
				if v := b.store.At(at, day); v != 0 {
					t.Errorf("at %d, %d, which is no day: %d", at, day, v)
				}
			}
		}
	}
	for _, c := range []struct {
		t    int
		s    api.Span
		want []api.Seg[int]
	}{
		// Inside a segment; from its begin; up to its end; all of it.
		{4, span(6, 7), segs(6, 7, 6)}, {2, span(4, 8), segs(4, 8, 5)}, {2, span(3, 5), segs(3, 5, 5)}, {2, span(5, 9), segs(5, 9, 5)}, {4, span(5, 7), segs(5, 7, 6)},
		// From inside one to inside another one; from a begin to an end.
		{4, span(4, 6), segs(4, 5, 5, 6, 6)}, {4, span(6, 13), segs(6, 7, 6, 9, 5, 12, 0, 13, 5)}, {4, span(3, 9), segs(3, 5, 5, 7, 6, 9, 5)}, {4, span(5, 9), segs(5, 7, 6, 9, 5)}, {4, span(3, 7), segs(3, 5, 5, 7, 6)},
		// Where there is the zero value alone.
		{4, span(9, 12), segs(9, 12, 0)}, {4, span(10, 11), segs(10, 11, 0)}, {7, span(1, 3), segs(1, 3, 0)}, {1, span(3, 9), segs(3, 9, 0)}, {0, span(5, 6), segs(5, 6, 0)},
		// One day, and up to End.
		{7, span(last, end), segs(last, end, 8)}, {7, span(last-1, end), segs(last-1, last, 0, end, 8)}, {4, span(last, end), segs(last, end, 0)}, {7, span(4, 5), segs(4, 5, 5)}, {7, span(3, 4), segs(3, 4, 0)},
	} {
		if l := b.store.Segs(c.t, c.s); !slices.Equal(l, c.want) {
			t.Errorf("segs %d, %v: %v, not %v", c.t, c.s, l, c.want)
		}
	}
	b.hold()
}

// P13.2: a line is one of its own: what is put to it is not put to the store, and what is put to the store is not put to it.
func TestLineIsOfItsOwn(t *testing.T) {
	b := filled(t, puts(1, 3, 9, 5, 3, 4, 6, 7)...)
	for _, at := range []int{least, 0, 1, 2, 3, 4, most} {
		line, twin := b.store.Line(at), b.store.Line(at)
		if line == nil || line == twin {
			t.Fatalf("line %d is not of its own", at)
		}
		for _, s := range []api.Span{span(4, 5), span(1, 20), all()} {
			if e := line.Put(s, 9); e != api.OK {
				t.Fatalf("put to line %d: %d", at, e)
			}
			b.whole()
			b.holdLine(at, twin)
			b.holdLine(at, b.store.Line(at))
		}
	}
	lines := map[int]*timeline.Timeline[int]{}
	want := map[int][]api.Seg[int]{}
	for _, at := range []int{0, 1, 2, 3, 4, most} {
		lines[at], want[at] = b.store.Line(at), b.segs(at, all())
	}
	b.put(put[int]{3, 1, 5, 1})
	b.put(put[int]{4, 2, 8, 2})
	b.put(put[int]{9, 1, end, 0})
	for at, line := range lines {
		if l := line.Segs(all()); !slices.Equal(l, want[at]) {
			t.Errorf("line %d, behind puts to the store: %v, not %v", at, l, want[at])
		}
	}
	b.hold()
}

// P13.3: where there is one list of rectangles that is the least one, what has them is told by others too; here there is just one.
func TestRects(t *testing.T) {
	rect := func(from, to, since, until, v int) api.Rect[int] {
		return api.Rect[int]{From: from, To: to, Since: since, Until: until, V: v}
	}
	for _, c := range []struct {
		puts []put[int]
		want []api.Rect[int]
	}{
		{puts(1, 3, 4, 5), []api.Rect[int]{rect(3, 4, 1, 0, 5)}},
		{puts(4, last, end, 5), []api.Rect[int]{rect(last, end, 4, 0, 5)}},
		{puts(1, 3, 4, 5, 2, 3, 4, 0), []api.Rect[int]{rect(3, 4, 1, 2, 5)}},
		{puts(1, 3, 4, 5, 3, 3, 4, 6), []api.Rect[int]{rect(3, 4, 1, 3, 5), rect(3, 4, 3, 0, 6)}},
		{puts(1, 3, 4, 5, 3, 3, 4, 0, 7, 3, 4, 5), []api.Rect[int]{rect(3, 4, 1, 3, 5), rect(3, 4, 7, 0, 5)}},
		{puts(1, 5, 6, 5, 2, 3, 4, 6, 3, 5, 6, 7), []api.Rect[int]{rect(3, 4, 2, 0, 6), rect(5, 6, 1, 3, 5), rect(5, 6, 3, 0, 7)}},
		{puts(1, 1, 2, 5, 1, 1, 2, 6, 2, 1, 2, 7, 2, 1, 2, 0), []api.Rect[int]{rect(1, 2, 1, 2, 6)}},
		{puts(1, 1, 2, 5, 1, 1, 2, 0), nil},
		{puts(1, 1, 2, 0), nil},
		{puts(most-1, 1, 2, 5, most, 1, 2, 6), []api.Rect[int]{rect(1, 2, most-1, most, 5), rect(1, 2, most, 0, 6)}},
	} {
		b := filled(t, c.puts...)
		if l := b.store.Rects(); !slices.Equal(l, c.want) {
			t.Errorf("rects of %v: %v, not %v", c.puts, l, c.want)
		}
		b.hold()
	}
}

// answers is all that is told of transactions up to one.
func (b *both[V]) answers(upTo int) string {
	var l []string
	tell := func(what ...any) { l = append(l, fmt.Sprintln(what...)) }
	for _, t := range b.times() {
		if t > upTo {
			continue
		}
		tell(t, b.store.Segs(t, all()), b.store.Segs(t, span(4, 9)), b.store.Line(t).Segs(all()), b.store.Changed(t))
		for _, day := range b.days() {
			tell(day, b.store.At(t, day))
		}
	}
	for _, day := range b.days() {
		h := slices.DeleteFunc(b.store.History(day), func(x api.Version[V]) bool { return x.T > upTo })
		tell(day, h)
	}
	return strings.Join(l, "")
}

// P13.1, P13.2, P13.3 (P2): what is told of an earlier transaction is told so again behind each later put.
func TestEarlierStays(t *testing.T) {
	for seed := range int64(6) {
		whole := filled(t, mixed(seed, 40, 0, 0, 1, 2)...)
		b := filled[int](t)
		for i, p := range whole.puts {
			b.put(p)
			if i+1 == len(whole.puts) || whole.puts[i+1].t == p.t {
				continue
			}
			was := b.answers(p.t)
			// The same is asked behind puts at the next transaction, and behind all of them.
			c := filled(t, b.puts...)
			asked := *b
			for _, next := range whole.puts[i+1 : min(i+4, len(whole.puts))] {
				c.put(next)
				asked.store = c.store
				if now := asked.answers(p.t); now != was {
					t.Fatalf("of transactions to %d, behind %v:\n%s\nnot\n%s", p.t, c.puts, now, was)
				}
			}
			asked.store = whole.store
			if now := asked.answers(p.t); now != was {
				t.Fatalf("of transactions to %d, behind %v:\n%s\nnot\n%s", p.t, whole.puts, now, was)
			}
		}
	}
}

// mixed are puts of no order that could be told, at rising transactions, of spans of many lengths, the same each time.
func mixed[V comparable](seed int64, count int, values ...V) []put[V] {
	r := rand.New(rand.NewSource(seed))
	var l []put[V]
	t := 1
	for range count {
		if r.Intn(2) == 0 {
			t += r.Intn(3)
		}
		length := 1 + r.Intn(1<<r.Intn(22))
		from := first + r.Intn(last)
		if len(l) > 0 && r.Intn(2) == 0 { // beside one that was put
			p := l[r.Intn(len(l))]
			from = []int{p.from, p.to, p.from - length, p.to - length, p.from + 1}[r.Intn(5)]
		}
		from = min(max(from, first), last)
		l = append(l, put[V]{t, from, min(from+length, end), values[r.Intn(len(values))]})
	}
	return l
}

// P13.1, P13.2, P13.3
func TestMixed(t *testing.T) {
	for seed := range int64(40) {
		filled(t, mixed(seed, 1+int(seed%7)*6, 0, 0, 1, 2, -1)...).whole()
	}
	for seed := range int64(3) {
		b := filled[int](t)
		for _, p := range mixed(seed+100, 9, 0, 1, 2) {
			b.put(p)
			b.hold()
		}
	}
}

// near are puts to a few days, often of the same ones.
func near(seed int64, count, from, days int) []put[int] {
	r := rand.New(rand.NewSource(seed))
	var l []put[int]
	t := 1
	for range count {
		t += r.Intn(5) / 3
		i := r.Intn(days)
		l = append(l, put[int]{t, from + i, from + i + 1 + r.Intn(days-i), r.Intn(3)})
	}
	return l
}

// P13.1, P13.2, P13.3: many puts to a few days, at both ends of all days and amidst.
func TestNear(t *testing.T) {
	const days = 6
	for _, from := range []int{first, 7, far - 2, end - days} {
		for seed := range int64(10) {
			filled(t, near(seed, 60, from, days)...).whole()
		}
		filled(t, near(77, 400, from, days)...).whole()
	}
}

// P13.1, P13.2, P13.3: all runs of three puts of three values to three days, each at the same transaction as the one ahead, or at a later one.
func TestAllRuns(t *testing.T) {
	const days = 3
	var steps []put[int]
	for from := range days {
		for to := from + 1; to <= days; to++ {
			for v := range 3 {
				steps = append(steps, put[int]{0, from, to, v}, put[int]{1, from, to, v})
			}
		}
	}
	for i := range len(steps) * len(steps) * len(steps) {
		run := []put[int]{steps[i%len(steps)], steps[i/len(steps)%len(steps)], steps[i/len(steps)/len(steps)]}
		if run[0].v == 0 || run[0].t == 0 { // what is put then is as if it were not; or the same at another first transaction
			continue
		}
		from := []int{first, 9, end - days}[i%5%3]
		later := 1 + i%7%2
		at, store := 0, bitemp.New[int]()
		var values [8][days]int // by transactions, and days
		for _, p := range run {
			at += p.t * later
			if e := store.Put(at, span(from+p.from, from+p.to), p.v); e != api.OK {
				t.Fatalf("%v: %d", run, e)
			}
			for since := at; since < len(values); since++ {
				for day := p.from; day < p.to; day++ {
					values[since][day] = p.v
				}
			}
		}
		if store.Last() != at {
			t.Fatalf("%v: last %d", run, store.Last())
		}
		daily(t, store, run, from, values[:])
	}
}

// daily holds a store against the values on some days, by transactions, day by day.
func daily(t *testing.T, s *bitemp.Store[int], run []put[int], from int, values [][3]int) {
	t.Helper()
	rects := s.Rects()
	var histories [3][]api.Version[int]
	for at := range values {
		var changed []api.Span
		for i, v := range values[at] {
			day := from + i
			if got := s.At(at, day); got != v {
				t.Fatalf("%v: at %d, %d: %d, not %d", run, at, day, got, v)
			}
			sum, count := 0, 0
			for _, x := range rects {
				if has(x, at, day) {
					sum += x.V
					count++
				}
			}
			if sum != v || count > 1 || v != 0 && count == 0 {
				t.Fatalf("%v: rects %v at %d, %d: %d, not %d", run, rects, at, day, sum, v)
			}
			if at == 0 || values[at-1][i] == v {
				continue
			}
			histories[i] = append(histories[i], api.Version[int]{T: at, V: v})
			if n := len(changed); n > 0 && changed[n-1].To == day {
				changed[n-1].To++
			} else {
				changed = append(changed, span(day, day+1))
			}
		}
		if l := s.Changed(at); !slices.Equal(l, changed) {
			t.Fatalf("%v: changed %d: %v, not %v", run, at, l, changed)
		}
		x := span(from, from+3)
		var want []api.Seg[int]
		for i, v := range values[at] {
			if n := len(want); n > 0 && want[n-1].V == v {
				want[n-1].To++
			} else {
				want = append(want, api.Seg[int]{From: from + i, To: from + i + 1, V: v})
			}
		}
		if l := s.Segs(at, x); !slices.Equal(l, want) {
			t.Fatalf("%v: segs %d: %v, not %v", run, at, l, want)
		}
	}
	for i, want := range histories {
		if l := s.History(from + i); !slices.Equal(l, want) {
			t.Fatalf("%v: history %d: %v, not %v", run, from+i, l, want)
		}
	}
}

// P13.1, P13.2, P13.3: a day that was put to more often than a tree may have items, amidst one that was put to once, and taken back.
func TestManyVersions(t *testing.T) {
	const count = api.MaxItems + 3000
	s := bitemp.New[int]()
	s.Put(1, span(2, 9), -7)
	for i := 2; i <= count; i++ {
		if e := s.Put(i, span(5, 6), i); e != api.OK {
			t.Fatalf("put at %d: %d", i, e)
		}
	}
	s.Put(count+1, span(1, 20), 0)
	for i := 2; i <= count; i += 1 + i/50 {
		if v := s.At(i, 5); v != i {
			t.Fatalf("at %d: %d", i, v)
		}
		if v := s.At(i, 4); v != -7 {
			t.Fatalf("at %d, beside: %d", i, v)
		}
		if l := s.Segs(i, span(1, 10)); !slices.Equal(l, segs(1, 2, 0, 5, -7, 6, i, 9, -7, 10, 0)) {
			t.Fatalf("segs %d: %v", i, l)
		}
		if l := s.Changed(i); !slices.Equal(l, of(5, 6)) {
			t.Fatalf("changed %d: %v", i, l)
		}
	}
	l := s.History(5)
	if len(l) != count+1 || l[count] != (api.Version[int]{T: count + 1}) {
		t.Fatalf("%d versions", len(l))
	}
	for i, x := range l[1:count] {
		if x != (api.Version[int]{T: i + 2, V: i + 2}) {
			t.Fatalf("the version %d: %v", i+1, x)
		}
	}
	if l := s.History(4); !slices.Equal(l, versions(1, -7, count+1, 0)) {
		t.Errorf("history beside: %v", l)
	}
	if l := s.Changed(count + 1); !slices.Equal(l, of(2, 9)) {
		t.Errorf("changed: %v", l)
	}
	rects := s.Rects()
	area := 0 // each rectangle's days, as often as it has a transaction
	for _, x := range rects {
		area += (x.To - x.From) * (x.Until - x.Since)
	}
	if area != 7*count {
		t.Errorf("rects: %d", area)
	}
}

// P13.1, P13.2, P13.3: many days, each of a value of its own, put once more at the next transaction, and then all of them at once.
func TestManyDays(t *testing.T) {
	const count = 30000
	from := far - count/2
	s := bitemp.New[int]()
	for at := range 2 {
		for i := range count {
			s.Put(at+1, span(from+i, from+i+1), i+at+1)
		}
	}
	s.Put(4, all(), 9)
	line, next := s.Line(1), s.Line(2)
	if line.Pieces() != count || next.Pieces() != count || s.Line(3).Pieces() != count || s.Line(4).Pieces() != 1 {
		t.Fatalf("%d pieces, %d pieces", line.Pieces(), next.Pieces())
	}
	for i := range count {
		if v, w := line.At(from+i), next.At(from+i); v != i+1 || w != i+2 {
			t.Fatalf("line, at %d: %d, %d", from+i, v, w)
		}
		if i%100 == 0 {
			if v, w, x := s.At(1, from+i), s.At(3, from+i), s.At(4, from+i); v != i+1 || w != i+2 || x != 9 {
				t.Fatalf("at %d: %d, %d, %d", from+i, v, w, x)
			}
			if l := s.History(from + i); !slices.Equal(l, versions(1, i+1, 2, i+2, 4, 9)) && i != 7 {
				t.Fatalf("history %d: %v", from+i, l)
			}
		}
	}
	if l := s.Segs(2, span(from+100, from+103)); !slices.Equal(l, segs(from+100, from+101, 102, from+102, 103, from+103, 104)) {
		t.Errorf("segs: %v", l)
	}
	if l := s.Changed(2); !slices.Equal(l, of(from, from+count)) {
		t.Errorf("changed 2: %v", l)
	}
	// Two days had the value of all: at 3, and at 2.
	if l := s.Changed(4); !slices.Equal(l, of(1, from+7, from+8, end)) {
		t.Errorf("changed 4: %v", l)
	}
	if l := s.Changed(3); len(l) > 0 {
		t.Errorf("changed 3: %v", l)
	}
}

// held holds stores of some type's values, by some of these.
func held[V comparable](t *testing.T, values ...V) {
	t.Helper()
	var zero V
	values = append(values, zero)
	for seed := range int64(4) {
		filled(t, mixed(seed, 16, values...)...).whole()
	}
	filled(t, mixed(9, 5, values...)...).hold()
}

// P13.1, P13.2, P13.3: values of types other than whole numbers.
func TestTypes(t *testing.T) {
	type pair struct {
		name string
		n    [2]int8
	}
	one, two := 1, 1
	held(t, api.Value{Kind: api.Num, N: api.Dec{C: 15, S: 1}}, api.Value{Kind: api.Num}, api.Value{Kind: api.Num, N: api.Dec{C: 15}}, api.Value{Kind: api.True}, api.Value{Kind: api.False}, api.Value{Kind: api.Bad, E: api.ErrDiv}, api.Value{Kind: api.Bad, E: api.ErrOver})
	held(t, "a", "b", "A", "a\x00")
	held(t, true)
	held[uint8](t, 1, 128, 255)
	held(t, 0.5, -0.5, math.Inf(1), math.Copysign(0, -1))
	held(t, [3]int{0, 0, 1}, [3]int{1, 0, 0})
	held(t, pair{name: "a"}, pair{n: [2]int8{0, 1}}, pair{"a", [2]int8{0, 1}})
	held(t, &one, &two)
	held(t, struct{}{})
	held[any](t, 1, "1", int8(1), 0, "", false, pair{}, &one, api.Value{})
}

// shape are segments as text, in which each number is like itself.
func shape(l []api.Seg[float64]) string {
	var s []string
	for _, x := range l {
		s = append(s, fmt.Sprint(x.From, "-", x.To, ":", x.V))
	}
	return strings.Join(s, " ")
}

// P13.1, P13.2, P13.3: a number that is unlike itself makes no call panic, is unlike all, and is told of earlier transactions as ever.
func TestUnlikeItself(t *testing.T) {
	nan := math.NaN()
	s := bitemp.New[float64]()
	s.Put(2, span(2, 10), nan)
	was := shape(s.Segs(2, span(1, 12)))
	if was != "1-2:0 2-10:NaN 10-12:0" {
		t.Fatalf("segs 2: %s", was)
	}
	s.Put(3, span(4, 6), 5)
	s.Put(5, span(7, 8), nan)
	s.Put(6, span(2, 3), 0)
	s.Put(6, span(5, 9), 0)
	for _, c := range []struct {
		t    int
		want string
	}{
		{1, "1-12:0"}, {2, was}, {3, "1-2:0 2-4:NaN 4-6:5 6-10:NaN 10-12:0"}, {4, "1-2:0 2-4:NaN 4-6:5 6-10:NaN 10-12:0"},
		{5, "1-2:0 2-4:NaN 4-6:5 6-7:NaN 7-8:NaN 8-10:NaN 10-12:0"}, {6, "1-3:0 3-4:NaN 4-5:5 5-9:0 9-10:NaN 10-12:0"},
	} {
		if got := shape(s.Segs(c.t, span(1, 12))); got != c.want {
			t.Errorf("segs %d: %s, not %s", c.t, got, c.want)
		}
		if got := shape(s.Line(c.t).Segs(span(1, 12))); got != c.want {
			t.Errorf("line %d: %s, not %s", c.t, got, c.want)
		}
	}
	for _, c := range []struct {
		day  int
		want string
	}{
		{1, "[]"}, {2, "[{2 NaN} {6 0}]"}, {3, "[{2 NaN}]"}, {4, "[{2 NaN} {3 5}]"}, {5, "[{2 NaN} {3 5} {6 0}]"}, {6, "[{2 NaN} {6 0}]"}, {7, "[{2 NaN} {5 NaN} {6 0}]"}, {9, "[{2 NaN}]"},
	} {
		if got := fmt.Sprint(s.History(c.day)); got != c.want {
			t.Errorf("history %d: %s, not %s", c.day, got, c.want)
		}
	}
	for _, c := range []struct {
		t    int
		want []api.Span
	}{{1, nil}, {2, of(2, 10)}, {3, of(4, 6)}, {4, nil}, {5, of(7, 8)}, {6, of(2, 3, 5, 9)}, {7, nil}} {
		if l := s.Changed(c.t); !slices.Equal(l, c.want) {
			t.Errorf("changed %d: %v, not %v", c.t, l, c.want)
		}
	}
	if v := s.At(2, 4); !math.IsNaN(v) {
		t.Errorf("at 2, 4: %v", v)
	}
	for _, x := range s.Rects() {
		if x.V == 0 || x.From >= x.To || x.Until != 0 && x.Since >= x.Until {
			t.Errorf("rects: %v", x)
		}
	}
}

// P13.1, P13.2, P13.3: values that can't be held against each other make no call panic, and are unlike all.
func TestNotComparable(t *testing.T) {
	list := []int{1, 2}
	s := bitemp.New[any]()
	for i, v := range []any{list, 5, struct{ v any }{list}, list, map[int]int{}, nil, func() {}} {
		if e := s.Put(i/2+1, span(3+i, 9+i), v); e != api.OK {
			t.Fatalf("put %d: %d", i, e)
		}
	}
	for at := range 6 {
		for day := range 20 {
			_ = s.At(at, day)
			_ = s.History(day)
		}
		l := s.Segs(at, all())
		if len(l) != len(s.Line(at).Segs(all())) || l[0].From != 1 || l[len(l)-1].To != end {
			t.Errorf("segs %d: %v", at, l)
		}
		_ = s.Changed(at)
	}
	if v, is := s.At(1, 3).([]int); !is || !slices.Equal(v, list) {
		t.Errorf("at 1, 3: %v", s.At(1, 3))
	}
	if l := s.Segs(1, span(1, 12)); len(l) != 4 || l[1].From != 3 || l[2].From != 4 || l[2].V != 5 || l[3].From != 10 {
		t.Errorf("segs 1: %v", l)
	}
	if l := s.Changed(1); !slices.Equal(l, of(3, 10)) {
		t.Errorf("changed 1: %v", l)
	}
	if l := s.History(8); len(l) != 3 || l[0].T != 1 || l[0].V != 5 || l[1].T != 2 || l[2].T != 3 || l[2].V != nil {
		t.Errorf("history 8: %v", l)
	}
	if len(s.Rects()) == 0 {
		t.Error("no rects")
	}

	// Put once more, it is another one.
	s = bitemp.New[any]()
	s.Put(1, span(3, 9), list)
	s.Put(2, span(4, 6), list)
	if l := s.Changed(2); !slices.Equal(l, of(4, 6)) {
		t.Errorf("changed 2: %v", l)
	}
	if l := s.History(4); len(l) != 2 || l[0].T != 1 || l[1].T != 2 {
		t.Errorf("history 4: %v", l)
	}
	for at, want := range [][]int{{1}, {1, 3, 9}, {1, 3, 4, 6, 9}} {
		var l []int
		for _, x := range s.Segs(at, all()) {
			l = append(l, x.From)
		}
		if !slices.Equal(l, want) {
			t.Errorf("segs %d begin on %v, not %v", at, l, want)
		}
	}
}

// P13.2, P13.3: what is told may be written over, and changes nothing that is told later; no two calls tell one memory.
func TestToldIsFree(t *testing.T) {
	b := filled(t, puts(1, 3, 9, 5, 3, 4, 6, 7, 3, last, end, 8, 5, 5, 6, 0, 6, 1, 20, 5)...)
	for _, at := range b.times() {
		for _, x := range some() {
			l, more := b.store.Segs(at, x), b.store.Segs(at, x)
			for i := range l {
				l[i] = api.Seg[int]{From: least, To: most, V: 77}
			}
			_ = append(l, api.Seg[int]{From: 1, To: 2, V: 3})
			if !slices.Equal(more, b.segs(at, x)) {
				t.Fatalf("segs %d, %v: %v", at, x, more)
			}
		}
		l, more := b.store.Changed(at), b.store.Changed(at)
		for i := range l {
			l[i] = span(7, 5)
		}
		_ = append(l, span(1, 2))
		if !slices.Equal(more, b.changed(at)) {
			t.Fatalf("changed %d: %v", at, more)
		}
	}
	for _, day := range []int{3, 4, 5, 8, 15, last} {
		l, more := b.store.History(day), b.store.History(day)
		for i := range l {
			l[i] = api.Version[int]{T: -1, V: 77}
		}
		_ = append(l, api.Version[int]{T: 9, V: 9})
		if !slices.Equal(more, b.history(day)) {
			t.Fatalf("history %d: %v", day, more)
		}
	}
	l, more := b.store.Rects(), b.store.Rects()
	want := slices.Clone(more)
	for i := range l {
		l[i] = api.Rect[int]{From: 9, To: 1, Since: 3, Until: 2, V: 77}
	}
	_ = append(l, api.Rect[int]{})
	if !slices.Equal(more, want) || !slices.Equal(b.store.Rects(), want) {
		t.Fatal("rects are not of memory of their own")
	}
	b.hold()

	told, changed, history, rects := b.store.Segs(6, all()), b.store.Changed(6), b.store.History(4), b.store.Rects()
	was := fmt.Sprint(told, changed, history, rects)
	b.put(put[int]{6, 1, end, 3})
	b.put(put[int]{7, 2, last, 4})
	if is := fmt.Sprint(told, changed, history, rects); is != was {
		t.Errorf("what was told ahead is changed by puts: %s, not %s", is, was)
	}
	b.hold()
}

// P13.1, P13.2, P13.3: no call but Put changes a store, and what is told hangs on no call ahead.
func TestAgain(t *testing.T) {
	b := filled(t, mixed(7, 30, 0, 1, 2)...)
	c := filled(t, near(8, 60, 3, 9)...)
	ask := func() string {
		l := []string{b.answers(most), c.answers(most), fmt.Sprint(b.store.Rects(), c.store.Rects(), b.store.Last(), c.store.Last())}
		for _, x := range append(some(), refused()...) {
			l = append(l, fmt.Sprint(b.store.Segs(3, x), c.store.Segs(x.From, x)))
		}
		return strings.Join(l, "\n")
	}
	was := ask()
	for range 3 {
		if ask() != was {
			t.Fatal("asked once more, another answer")
		}
	}
	// Nor does it hang on how the same came to be: what is refused amidst is as if it were not.
	d := bitemp.New[int]()
	for _, p := range c.puts {
		d.Put(d.Last()-1, span(p.from, p.to), 9)
		d.Put(p.t+5, span(p.to, p.from), 9)
		d.Put(p.t, span(p.from, p.to), p.v)
	}
	if got, want := fmt.Sprint(d.Rects()), fmt.Sprint(c.store.Rects()); got != want {
		t.Errorf("rects: %s, not %s", got, want)
	}
	b.whole()
	c.whole()
}

// P13.1: a struct that is set to another one is the same store.
func TestSetTo(t *testing.T) {
	b := filled(t, puts(1, 3, 9, 5)...)
	twin := *b.store
	b.put(put[int]{2, 4, 6, 7})
	if e := twin.Put(1, span(1, 2), 5); e != api.ErrArg {
		t.Errorf("put behind the last one: %d", e)
	}
	if e := twin.Put(3, span(5, 12), 8); e != api.OK {
		t.Errorf("put: %d", e)
	}
	b.puts = append(b.puts, put[int]{3, 5, 12, 8})
	b.hold()
	b.store = &twin
	b.hold()
}

// TestExamples are the chapter's examples, and that of the whole.
func TestExamples(t *testing.T) { // P13.1, P13.2, P13.3
	s := bitemp.New[int]()
	if e := s.Put(1, span(1, 10), 5); e != api.OK {
		t.Error(e)
	}
	if e := s.Put(3, span(4, 6), 7); e != api.OK {
		t.Error(e)
	}
	if v := s.At(2, 4); v != 5 {
		t.Errorf("at 2, 4: %d", v)
	}
	if v := s.At(3, 4); v != 7 {
		t.Errorf("at 3, 4: %d", v)
	}
	if l := s.History(4); !slices.Equal(l, versions(1, 5, 3, 7)) {
		t.Errorf("history 4: %v", l)
	}
	if l := s.Segs(3, span(1, 10)); !slices.Equal(l, segs(1, 4, 5, 6, 7, 10, 5)) {
		t.Errorf("segs 3: %v", l)
	}
	if n := s.Last(); n != 3 {
		t.Errorf("last: %d", n)
	}
}
