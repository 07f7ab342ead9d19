package timeline_test

import (
	"fmt"
	"math"
	"math/rand"
	"slices"
	"strings"
	"testing"

	"corrody/api"
	"corrody/timeline"
)

const (
	most  = math.MaxInt
	least = math.MinInt
	first = api.FirstDay
	last  = api.LastDay
	end   = api.End

	// One more day than a tree may have items.
	far = api.FirstDay + api.MaxItems
)

// span is a span of its two numbers.
func span(from, to int) api.Span { return api.Span{From: from, To: to} }

// all are all days.
func all() api.Span { return span(first, end) }

// seg is a segment of whole numbers.
func seg(from, to, v int) api.Seg[int] { return api.Seg[int]{From: from, To: to, V: v} }

// segs are segments side by side: from a day on, to each day with the value behind it.
func segs(from int, steps ...int) []api.Seg[int] {
	var l []api.Seg[int]
	for i := 0; i < len(steps); i += 2 {
		l = append(l, seg(from, steps[i], steps[i+1]))
		from = steps[i]
	}
	return l
}

// refused are spans that may not be.
func refused() []api.Span {
	return []api.Span{
		// From is below FirstDay.
		span(0, 1), span(0, 2), span(0, 5), span(0, end), span(-1, 5), span(-7, -3), span(-1, end), span(least, 5), span(least, end), span(least, least+1),
		// To is beyond End.
		span(1, end+1), span(5, end+1), span(last, end+1), span(end, end+1), span(end+1, end+2), span(end, most), span(1, most), span(last, most), span(most-1, most),
		// Both.
		span(0, end+1), span(-1, end+7), span(least, most),
		// Empty.
		span(0, 0), span(1, 1), span(5, 5), span(far, far), span(last, last), span(end, end), span(end+1, end+1), span(-3, -3), span(least, least), span(most, most),
		// Backwards.
		span(1, 0), span(2, 1), span(5, 4), span(9, 1), span(last, 1), span(end, 1), span(end, last), span(1, -1), span(5, least), span(most, 5), span(most, 1), span(most, end), span(1, least), span(most, least), span(end+1, end),
	}
}

// none are days that are none.
func none() []int {
	return []int{0, -1, -2, -1000, end, end + 1, end + 1000, least, least + 1, most, most - 1}
}

// some are spans that may be.
func some() []api.Span {
	return []api.Span{all(), span(1, 2), span(1, 3), span(2, 3), span(5, 9), span(last, end), span(last-1, end), span(last-1, last), span(2, last), span(far-1, far+1), span(far, far+1), span(1, last), span(2, end)}
}

// put is a span that is given a value.
type put[V comparable] struct {
	from, to int
	v        V
}

// both are a timeline, and all that was put to it.
type both[V comparable] struct {
	t    *testing.T
	line *timeline.Timeline[V]
	puts []put[V]
}

// filled is a timeline to which was put.
func filled[V comparable](t *testing.T, puts ...put[V]) *both[V] {
	t.Helper()
	b := &both[V]{t: t, line: timeline.New[V]()}
	for _, p := range puts {
		b.put(p)
	}
	return b
}

func (b *both[V]) put(p put[V]) {
	b.t.Helper()
	if e := b.line.Put(span(p.from, p.to), p.v); e != api.OK {
		b.t.Fatalf("put %v behind %v: %d", p, b.puts, e)
	}
	b.puts = append(b.puts, p)
}

// at is a day's value: what was put there last.
func (b *both[V]) at(day int) V {
	for _, p := range slices.Backward(b.puts) {
		if p.from <= day && day < p.to {
			return p.v
		}
	}
	var zero V
	return zero
}

// bounds are all days at which something that was put begins or ends, those beside them, and both ends of all days: rising, each once.
func (b *both[V]) bounds() []int {
	l := []int{first, last, end}
	for _, p := range b.puts {
		for _, day := range []int{p.from, p.to} {
			l = append(l, day-1, day, day+1)
		}
	}
	slices.Sort(l)
	l = slices.Compact(l)
	return slices.DeleteFunc(l, func(day int) bool { return day < first || day > end })
}

// ends are the days of a span, but its first one, whose value is another one than that ahead: those that are to be looked at are where something that was put begins or ends.
func (b *both[V]) ends(s api.Span) []int {
	var l []int
	for _, day := range b.bounds() {
		if s.From < day && day < s.To && b.at(day) != b.at(day-1) {
			l = append(l, day)
		}
	}
	return l
}

// segs are the segments over a span: it is cut at its ends.
func (b *both[V]) segs(s api.Span) []api.Seg[V] {
	from := s.From
	var l []api.Seg[V]
	for _, to := range append(b.ends(s), s.To) {
		l = append(l, api.Seg[V]{From: from, To: to, V: b.at(from)})
		from = to
	}
	return l
}

// pieces is how many segments over all days are not of the zero value.
func (b *both[V]) pieces() int {
	var zero V
	count := 0
	for _, x := range b.segs(all()) {
		if x.V != zero {
			count++
		}
	}
	return count
}

// span holds what is told of a span against what was put.
func (b *both[V]) span(s api.Span) {
	b.t.Helper()
	if l, want := b.line.Segs(s), b.segs(s); !slices.Equal(l, want) {
		b.t.Fatalf("segs %v of %v: %v, not %v", s, b.puts, l, want)
	}
	if l, want := b.line.Ends(s), b.ends(s); !slices.Equal(l, want) {
		b.t.Fatalf("ends %v of %v: %v, not %v", s, b.puts, l, want)
	}
}

// whole holds what is told of all days against what was put.
func (b *both[V]) whole() {
	b.t.Helper()
	b.span(all())
	if count, want := b.line.Pieces(), b.pieces(); count != want {
		b.t.Fatalf("pieces of %v: %d, not %d", b.puts, count, want)
	}
	for _, day := range b.bounds() {
		if v, want := b.line.At(day), b.at(day); v != want {
			b.t.Fatalf("at %d of %v: %v, not %v", day, b.puts, v, want)
		}
	}
}

// hold holds all that may be told against what was put: over each span between bounds.
func (b *both[V]) hold() {
	b.t.Helper()
	b.whole()
	l := b.bounds()
	for i, from := range l {
		for _, to := range l[i+1:] {
			b.span(span(from, to))
		}
	}
	var zero V
	for _, day := range none() {
		if v := b.line.At(day); v != zero {
			b.t.Fatalf("at %d, which is no day, of %v: %v", day, b.puts, v)
		}
	}
}

// P11.1, P11.2
func TestAtFirst(t *testing.T) {
	line := timeline.New[int]()
	if line == nil {
		t.Fatal("New is not there")
	}
	for _, day := range append(none(), 1, 2, 5, far-1, far, 3*api.MaxItems, last-1, last) {
		if v := line.At(day); v != 0 {
			t.Errorf("at %d: %d", day, v)
		}
	}
	for _, s := range some() {
		if l := line.Segs(s); !slices.Equal(l, []api.Seg[int]{seg(s.From, s.To, 0)}) {
			t.Errorf("segs %v: %v", s, l)
		}
		if l := line.Ends(s); len(l) > 0 {
			t.Errorf("ends %v: %v", s, l)
		}
	}
	if count := line.Pieces(); count != 0 {
		t.Errorf("pieces: %d", count)
	}
	filled[int](t).hold()
	filled[string](t).hold()
	filled[api.Value](t).hold()
}

// P11.1: what is put to one that is new is not of another one.
func TestNewOnes(t *testing.T) {
	a, b := filled[int](t), filled[int](t)
	a.put(put[int]{3, 7, 5})
	b.put(put[int]{4, last, 6})
	a.hold()
	b.hold()
	filled[int](t).hold()
}

// P11.1, P11.2: each, and what is told of all days.
func TestPut(t *testing.T) {
	for _, c := range []struct {
		what   string
		puts   []put[int]
		want   []api.Seg[int]
		pieces int
	}{
		{"one", []put[int]{{3, 7, 5}}, segs(1, 3, 0, 7, 5, end, 0), 1},
		{"one below nought", []put[int]{{3, 7, least}}, segs(1, 3, 0, 7, least, end, 0), 1},
		{"one day", []put[int]{{3, 4, 5}}, segs(1, 3, 0, 4, 5, end, 0), 1},
		{"at FirstDay", []put[int]{{1, 4, 5}}, segs(1, 4, 5, end, 0), 1},
		{"FirstDay", []put[int]{{1, 2, 5}}, segs(1, 2, 5, end, 0), 1},
		{"up to End", []put[int]{{9, end, 5}}, segs(1, 9, 0, end, 5), 1},
		{"LastDay", []put[int]{{last, end, 5}}, segs(1, last, 0, end, 5), 1},
		{"all days", []put[int]{{1, end, 5}}, segs(1, end, 5), 1},
		{"all days but FirstDay", []put[int]{{2, end, 5}}, segs(1, 2, 0, end, 5), 1},
		{"all days but LastDay", []put[int]{{1, last, 5}}, segs(1, last, 5, end, 0), 1},
		{"both ends", []put[int]{{1, 2, 5}, {last, end, 6}}, segs(1, 2, 5, last, 0, end, 6), 2},
		{"both ends, of the same value", []put[int]{{1, 2, 5}, {last, end, 5}}, segs(1, 2, 5, last, 0, end, 5), 2},

		{"apart", []put[int]{{3, 5, 5}, {7, 9, 6}}, segs(1, 3, 0, 5, 5, 7, 0, 9, 6, end, 0), 2},
		{"apart, the other way round", []put[int]{{7, 9, 6}, {3, 5, 5}}, segs(1, 3, 0, 5, 5, 7, 0, 9, 6, end, 0), 2},
		{"apart, of the same value", []put[int]{{3, 5, 5}, {7, 9, 5}}, segs(1, 3, 0, 5, 5, 7, 0, 9, 5, end, 0), 2},
		{"a day apart, of the same value", []put[int]{{3, 5, 5}, {6, 9, 5}}, segs(1, 3, 0, 5, 5, 6, 0, 9, 5, end, 0), 2},
		{"touching", []put[int]{{3, 5, 5}, {5, 9, 6}}, segs(1, 3, 0, 5, 5, 9, 6, end, 0), 2},
		{"touching, the other way round", []put[int]{{5, 9, 6}, {3, 5, 5}}, segs(1, 3, 0, 5, 5, 9, 6, end, 0), 2},
		{"touching, of the same value", []put[int]{{3, 5, 5}, {5, 9, 5}}, segs(1, 3, 0, 9, 5, end, 0), 1},
		{"touching, of the same value, the other way round", []put[int]{{5, 9, 5}, {3, 5, 5}}, segs(1, 3, 0, 9, 5, end, 0), 1},
		{"between two", []put[int]{{3, 5, 5}, {7, 9, 6}, {5, 7, 4}}, segs(1, 3, 0, 5, 5, 7, 4, 9, 6, end, 0), 3},
		{"between two of its value", []put[int]{{3, 5, 5}, {7, 9, 5}, {5, 7, 5}}, segs(1, 3, 0, 9, 5, end, 0), 1},
		{"between one of its value and another", []put[int]{{3, 5, 5}, {7, 9, 6}, {5, 7, 5}}, segs(1, 3, 0, 7, 5, 9, 6, end, 0), 2},
		{"between another and one of its value", []put[int]{{3, 5, 5}, {7, 9, 6}, {5, 7, 6}}, segs(1, 3, 0, 5, 5, 9, 6, end, 0), 2},
		{"a part of what is between two", []put[int]{{3, 5, 5}, {9, 11, 5}, {6, 8, 5}}, segs(1, 3, 0, 5, 5, 6, 0, 8, 5, 9, 0, 11, 5, end, 0), 3},

		{"over an end", []put[int]{{3, 7, 5}, {5, 9, 6}}, segs(1, 3, 0, 5, 5, 9, 6, end, 0), 2},
		{"over a begin", []put[int]{{5, 9, 5}, {3, 7, 6}}, segs(1, 3, 0, 7, 6, 9, 5, end, 0), 2},
		{"over an end, of the same value", []put[int]{{3, 7, 5}, {5, 9, 5}}, segs(1, 3, 0, 9, 5, end, 0), 1},
		{"over a begin, of the same value", []put[int]{{5, 9, 5}, {3, 7, 5}}, segs(1, 3, 0, 9, 5, end, 0), 1},
		{"over one's end and another's begin", []put[int]{{3, 5, 5}, {7, 9, 6}, {4, 8, 4}}, segs(1, 3, 0, 4, 5, 8, 4, 9, 6, end, 0), 3},
		{"over both, of the value of both", []put[int]{{3, 5, 5}, {7, 9, 5}, {4, 8, 5}}, segs(1, 3, 0, 9, 5, end, 0), 1},

		{"inside", []put[int]{{3, 9, 5}, {5, 7, 6}}, segs(1, 3, 0, 5, 5, 7, 6, 9, 5, end, 0), 3},
		{"inside, at its begin", []put[int]{{3, 9, 5}, {3, 7, 6}}, segs(1, 3, 0, 7, 6, 9, 5, end, 0), 2},
		{"inside, at its end", []put[int]{{3, 9, 5}, {5, 9, 6}}, segs(1, 3, 0, 5, 5, 9, 6, end, 0), 2},
		{"inside, of the same value", []put[int]{{3, 9, 5}, {5, 7, 5}}, segs(1, 3, 0, 9, 5, end, 0), 1},
		{"inside, then as before", []put[int]{{3, 9, 5}, {5, 7, 6}, {5, 7, 5}}, segs(1, 3, 0, 9, 5, end, 0), 1},
		{"inside, then a part as before", []put[int]{{3, 9, 5}, {5, 7, 6}, {5, 6, 5}}, segs(1, 3, 0, 6, 5, 7, 6, 9, 5, end, 0), 3},
		{"inside what is inside", []put[int]{{1, end, 5}, {3, 9, 6}, {5, 7, 5}}, segs(1, 3, 5, 5, 6, 7, 5, 9, 6, end, 5), 5},
		{"around", []put[int]{{5, 7, 5}, {3, 9, 6}}, segs(1, 3, 0, 9, 6, end, 0), 1},
		{"around, from the same day on", []put[int]{{5, 7, 5}, {5, 9, 6}}, segs(1, 5, 0, 9, 6, end, 0), 1},
		{"around, to the same day", []put[int]{{5, 7, 5}, {3, 7, 6}}, segs(1, 3, 0, 7, 6, end, 0), 1},
		{"around, of the same value", []put[int]{{5, 7, 5}, {3, 9, 5}}, segs(1, 3, 0, 9, 5, end, 0), 1},
		{"over the same", []put[int]{{3, 7, 5}, {3, 7, 6}}, segs(1, 3, 0, 7, 6, end, 0), 1},
		{"the same twice", []put[int]{{3, 7, 5}, {3, 7, 5}}, segs(1, 3, 0, 7, 5, end, 0), 1},
		{"around many", []put[int]{{3, 4, 1}, {4, 5, 2}, {6, 7, 3}, {9, 12, 4}, {14, 20, 5}, {2, 30, 6}}, segs(1, 2, 0, 30, 6, end, 0), 1},
		{"around many, of one's value", []put[int]{{3, 4, 1}, {4, 5, 2}, {6, 7, 3}, {9, 12, 4}, {14, 20, 5}, {2, 30, 3}}, segs(1, 2, 0, 30, 3, end, 0), 1},
		{"around many, into the first and the last one", []put[int]{{3, 6, 1}, {6, 7, 2}, {9, 12, 4}, {14, 20, 5}, {5, 15, 6}}, segs(1, 3, 0, 5, 1, 15, 6, 20, 5, end, 0), 3},
		{"around many, of the first one's value", []put[int]{{3, 6, 1}, {6, 7, 2}, {9, 12, 4}, {14, 20, 5}, {5, 15, 1}}, segs(1, 3, 0, 15, 1, 20, 5, end, 0), 2},
		{"around many, of the last one's value", []put[int]{{3, 6, 1}, {6, 7, 2}, {9, 12, 4}, {14, 20, 5}, {5, 15, 5}}, segs(1, 3, 0, 5, 1, 20, 5, end, 0), 2},
		{"around many, touching two of its value", []put[int]{{3, 6, 1}, {6, 7, 2}, {9, 12, 4}, {14, 20, 1}, {6, 14, 1}}, segs(1, 3, 0, 20, 1, end, 0), 1},
		{"all days, around many", []put[int]{{1, 2, 1}, {4, 5, 2}, {far, far + 1, 3}, {last, end, 4}, {1, end, 9}}, segs(1, end, 9), 1},

		{"the zero value, over nothing", []put[int]{{3, 7, 0}}, segs(1, end, 0), 0},
		{"the zero value, on all days", []put[int]{{1, end, 0}}, segs(1, end, 0), 0},
		{"the zero value, over the same", []put[int]{{3, 7, 5}, {3, 7, 0}}, segs(1, end, 0), 0},
		{"the zero value, around", []put[int]{{3, 7, 5}, {2, 8, 0}}, segs(1, end, 0), 0},
		{"the zero value, inside", []put[int]{{3, 9, 5}, {5, 7, 0}}, segs(1, 3, 0, 5, 5, 7, 0, 9, 5, end, 0), 2},
		{"the zero value, over an end", []put[int]{{3, 7, 5}, {5, 9, 0}}, segs(1, 3, 0, 5, 5, end, 0), 1},
		{"the zero value, over a begin", []put[int]{{3, 7, 5}, {1, 5, 0}}, segs(1, 5, 0, 7, 5, end, 0), 1},
		{"the zero value, behind", []put[int]{{3, 7, 5}, {7, 9, 0}}, segs(1, 3, 0, 7, 5, end, 0), 1},
		{"the zero value, ahead", []put[int]{{3, 7, 5}, {1, 3, 0}}, segs(1, 3, 0, 7, 5, end, 0), 1},
		{"the zero value, between two", []put[int]{{3, 5, 5}, {7, 9, 6}, {5, 7, 0}}, segs(1, 3, 0, 5, 5, 7, 0, 9, 6, end, 0), 2},
		{"the zero value, over one of two that touch", []put[int]{{3, 5, 5}, {5, 9, 6}, {3, 5, 0}}, segs(1, 5, 0, 9, 6, end, 0), 1},
		{"the zero value, over all", []put[int]{{1, 2, 1}, {4, 5, 2}, {far, far + 1, 3}, {last, end, 4}, {1, end, 0}}, segs(1, end, 0), 0},
		{"the zero value, out of all days", []put[int]{{1, end, 5}, {3, 7, 0}}, segs(1, 3, 5, 7, 0, end, 5), 2},
		{"the zero value, at FirstDay, out of all days", []put[int]{{1, end, 5}, {1, 2, 0}}, segs(1, 2, 0, end, 5), 1},
		{"the zero value, at LastDay, out of all days", []put[int]{{1, end, 5}, {last, end, 0}}, segs(1, last, 5, end, 0), 1},
		{"the zero value, then something", []put[int]{{3, 9, 5}, {5, 7, 0}, {5, 7, 5}}, segs(1, 3, 0, 9, 5, end, 0), 1},
		{"over what was put to be zero", []put[int]{{3, 7, 5}, {3, 7, 0}, {4, 6, 6}}, segs(1, 4, 0, 6, 6, end, 0), 1},

		{"over very many days", []put[int]{{5, last - 5, 7}, {far - 1, 3*api.MaxItems + 4, 8}, {far, far + 1, 7}}, segs(1, 5, 0, far-1, 7, far, 8, far+1, 7, 3*api.MaxItems+4, 8, last-5, 7, end, 0), 5},
	} {
		b := filled(t, c.puts...)
		b.hold()
		if l := b.line.Segs(all()); !slices.Equal(l, c.want) {
			t.Errorf("%s: %v, not %v", c.what, l, c.want)
		}
		if count := b.line.Pieces(); count != c.pieces {
			t.Errorf("%s: %d pieces, not %d", c.what, count, c.pieces)
		}
	}
}

// P11.1, P11.2: all is held behind each of some puts, not behind the last one alone.
func TestPutByPut(t *testing.T) {
	b := filled[int](t)
	for _, c := range []struct {
		put    put[int]
		pieces int
	}{
		{put[int]{10, 20, 1}, 1}, {put[int]{30, 40, 2}, 2}, {put[int]{20, 30, 3}, 3}, {put[int]{15, 35, 3}, 3}, {put[int]{12, 13, 3}, 5},
		{put[int]{13, 15, 3}, 3}, {put[int]{12, 35, 0}, 2}, {put[int]{35, 40, 1}, 2}, {put[int]{12, 35, 1}, 1}, {put[int]{1, 10, 1}, 1},
		{put[int]{40, end, 1}, 1}, {put[int]{1, end, 1}, 1}, {put[int]{far, far + 3, 2}, 3}, {put[int]{far + 1, far + 2, 0}, 4}, {put[int]{last, end, 0}, 4},
		{put[int]{1, 2, 0}, 4}, {put[int]{2, last, 0}, 0}, {put[int]{2, last, 0}, 0}, {put[int]{last, end, 7}, 1}, {put[int]{last, end, 7}, 1},
	} {
		b.put(c.put)
		b.hold()
		if count := b.line.Pieces(); count != c.pieces {
			t.Errorf("behind %v: %d pieces, not %d", b.puts, count, c.pieces)
		}
	}
}

// P11.1
func TestAt(t *testing.T) {
	b := filled(t, put[int]{1, 3, 4}, put[int]{5, 7, 5}, put[int]{7, 8, 6}, put[int]{far, far + 2, 7}, put[int]{last, end, 8})
	for day, want := range map[int]int{
		1: 4, 2: 4, 3: 0, 4: 0, 5: 5, 6: 5, 7: 6, 8: 0, far - 1: 0, far: 7, far + 1: 7, far + 2: 0, last - 1: 0, last: 8,
		0: 0, -1: 0, end: 0, end + 1: 0, least: 0, most: 0,
	} {
		if v := b.line.At(day); v != want {
			t.Errorf("at %d: %d, not %d", day, v, want)
		}
	}
	whole := filled(t, put[int]{1, end, 9})
	for _, day := range []int{1, 2, 5, far - 1, far, far + 1, 2 * far, 3 * far, last - 1, last} {
		if v := whole.line.At(day); v != 9 {
			t.Errorf("at %d of all days: %d", day, v)
		}
	}
	for _, day := range none() {
		if v := whole.line.At(day); v != 0 {
			t.Errorf("at %d, which is no day, of all days: %d", day, v)
		}
	}
}

// P11.2
func TestSegs(t *testing.T) {
	b := filled(t, put[int]{3, 7, 5}, put[int]{7, 9, 6}, put[int]{12, 15, 5}, put[int]{last - 1, end, 8})
	for _, c := range []struct {
		s    api.Span
		want []api.Seg[int]
	}{
		{span(1, 10), segs(1, 3, 0, 7, 5, 9, 6, 10, 0)},
		{span(3, 7), segs(3, 7, 5)},
		{span(4, 6), segs(4, 6, 5)},
		{span(4, 5), segs(4, 5, 5)},
		{span(3, 4), segs(3, 4, 5)},
		{span(6, 7), segs(6, 7, 5)},
		{span(4, 7), segs(4, 7, 5)},
		{span(3, 6), segs(3, 6, 5)},
		{span(6, 8), segs(6, 7, 5, 8, 6)},
		{span(7, 8), segs(7, 8, 6)},
		{span(7, 9), segs(7, 9, 6)},
		{span(2, 4), segs(2, 3, 0, 4, 5)},
		{span(2, 3), segs(2, 3, 0)},
		{span(1, 3), segs(1, 3, 0)},
		{span(1, 2), segs(1, 2, 0)},
		{span(9, 12), segs(9, 12, 0)},
		{span(10, 11), segs(10, 11, 0)},
		{span(8, 13), segs(8, 9, 6, 12, 0, 13, 5)},
		{span(9, 13), segs(9, 12, 0, 13, 5)},
		{span(8, 12), segs(8, 9, 6, 12, 0)},
		{span(5, 14), segs(5, 7, 5, 9, 6, 12, 0, 14, 5)},
		{span(14, 16), segs(14, 15, 5, 16, 0)},
		{span(15, 16), segs(15, 16, 0)},
		{span(15, last-1), segs(15, last-1, 0)},
		{span(15, last), segs(15, last-1, 0, last, 8)},
		{span(last-1, last), segs(last-1, last, 8)},
		{span(last, end), segs(last, end, 8)},
		{span(last-2, end), segs(last-2, last-1, 0, end, 8)},
		{all(), segs(1, 3, 0, 7, 5, 9, 6, 12, 0, 15, 5, last-1, 0, end, 8)},
	} {
		if l := b.line.Segs(c.s); !slices.Equal(l, c.want) {
			t.Errorf("segs %v: %v, not %v", c.s, l, c.want)
		}
	}
	b.hold()
}

// P11.2: the first day of a span is none of its ends, even where its value is another one than on the day ahead.
func TestEnds(t *testing.T) {
	b := filled(t, put[int]{1, 2, 4}, put[int]{3, 7, 5}, put[int]{7, 9, 6}, put[int]{last, end, 8})
	for _, c := range []struct {
		s    api.Span
		want []int
	}{
		{all(), []int{2, 3, 7, 9, last}},
		{span(1, 10), []int{2, 3, 7, 9}},
		{span(1, 9), []int{2, 3, 7}},
		{span(1, 8), []int{2, 3, 7}},
		{span(1, 7), []int{2, 3}},
		{span(1, 3), []int{2}},
		{span(1, 2), nil},
		{span(2, 10), []int{3, 7, 9}},
		{span(2, 3), nil},
		{span(2, 4), []int{3}},
		{span(3, 7), nil},
		{span(3, 8), []int{7}},
		{span(3, 10), []int{7, 9}},
		{span(4, 6), nil},
		{span(4, 9), []int{7}},
		{span(6, 7), nil},
		{span(7, 9), nil},
		{span(7, 10), []int{9}},
		{span(8, 10), []int{9}},
		{span(9, 10), nil},
		{span(10, last), nil},
		{span(10, end), []int{last}},
		{span(9, end), []int{last}},
		{span(last, end), nil},
		{span(last-1, end), []int{last}},
		{span(last-1, last), nil},
	} {
		if l := b.line.Ends(c.s); !slices.Equal(l, c.want) {
			t.Errorf("ends %v: %v, not %v", c.s, l, c.want)
		}
	}
	b.hold()
	if l := filled(t, put[int]{1, end, 5}).line.Ends(all()); len(l) > 0 {
		t.Errorf("ends of one value: %v", l)
	}
}

// P11.1, P11.2: a span that may not be is refused, changes nothing, and has neither segments nor ends.
func TestRefused(t *testing.T) {
	for _, b := range []*both[int]{
		filled[int](t), filled(t, put[int]{1, end, 5}), filled(t, put[int]{3, 7, 5}, put[int]{7, 9, 6}), filled(t, put[int]{1, 2, 4}, put[int]{5, 6, 7}, put[int]{last, end, 8}),
	} {
		for _, s := range refused() {
			for _, v := range []int{0, 5, 9} {
				if e := b.line.Put(s, v); e != api.ErrSpan {
					t.Errorf("put %v, %d: %d", s, v, e)
				}
			}
			if l := b.line.Segs(s); len(l) > 0 {
				t.Errorf("segs %v of %v: %v", s, b.puts, l)
			}
			if l := b.line.Ends(s); len(l) > 0 {
				t.Errorf("ends %v of %v: %v", s, b.puts, l)
			}
			b.whole()
		}
		b.hold()
		b.put(put[int]{4, 8, 3})
		b.hold()
	}
}

// unmade are a timeline that is not there, and one that was not made.
func unmade[V comparable]() map[string]*timeline.Timeline[V] {
	return map[string]*timeline.Timeline[V]{"none": nil, "not made": {}}
}

// asked holds what is told of a timeline that is not there, or was not made.
func asked[V comparable](t *testing.T, v V) {
	t.Helper()
	var zero V
	for what, line := range unmade[V]() {
		for _, s := range append(refused(), some()...) {
			if e := line.Put(s, v); e != api.ErrNil {
				t.Errorf("%s: put %v, %v: %d", what, s, v, e)
			}
			if e := line.Put(s, zero); e != api.ErrNil {
				t.Errorf("%s: put %v, %v: %d", what, s, zero, e)
			}
			if l := line.Segs(s); len(l) > 0 {
				t.Errorf("%s: segs %v: %v", what, s, l)
			}
			if l := line.Ends(s); len(l) > 0 {
				t.Errorf("%s: ends %v: %v", what, s, l)
			}
		}
		for _, day := range append(none(), 1, 5, far, last) {
			if is := line.At(day); is != zero {
				t.Errorf("%s: at %d: %v", what, day, is)
			}
		}
		if count := line.Pieces(); count != 0 {
			t.Errorf("%s: %d pieces", what, count)
		}
	}
}

// P11.1, P11.2, P11.3
func TestUnmade(t *testing.T) {
	asked(t, 5)
	asked(t, "five")
	asked(t, true)
	asked(t, api.Value{Kind: api.True})
	asked[any](t, 5)
}

// P11.3: a copy of none is as at first, of its own, and may be put to.
func TestCopyUnmade(t *testing.T) {
	for what, line := range unmade[int]() {
		a, b := line.Copy(), line.Copy()
		if a == nil || b == nil {
			t.Fatal(what, "is copied as none")
		}
		one := &both[int]{t: t, line: a}
		two := &both[int]{t: t, line: b}
		one.hold()
		two.hold()
		one.put(put[int]{3, 7, 5})
		one.hold()
		two.hold()
		two.put(put[int]{4, 9, 6})
		one.hold()
		two.hold()
		if e := line.Put(all(), 5); e != api.ErrNil {
			t.Errorf("%s, behind its copy: %d", what, e)
		}
	}
}

// P11.3
func TestSameUnmade(t *testing.T) {
	gone := filled(t, put[int]{3, 7, 5}, put[int]{3, 7, 0}).line
	lines := map[string]*timeline.Timeline[int]{"none": nil, "not made": {}, "at first": timeline.New[int](), "no more": gone, "copied": timeline.New[int]().Copy()}
	for x, a := range lines {
		for y, b := range lines {
			if !timeline.Same(a, b) {
				t.Errorf("%s and %s are not the same", x, y)
			}
		}
		for _, p := range []put[int]{{3, 7, 5}, {1, 2, 5}, {last, end, 5}, {1, end, 5}, {far, far + 1, 5}} {
			other := filled(t, p).line
			if timeline.Same(a, other) || timeline.Same(other, a) {
				t.Errorf("%s and %v are the same", x, p)
			}
		}
	}
}

// P11.3
func TestCopy(t *testing.T) {
	puts := []put[int]{{1, 2, 4}, {3, 7, 5}, {7, 9, 6}, {far - 1, far + 5, 5}, {last, end, 8}}
	for _, more := range []put[int]{{3, 7, 6}, {4, 5, 9}, {1, end, 0}, {1, end, 5}, {5, 8, 5}, {2, 3, 5}, {last, end, 0}, {1, 2, 0}, {far, far + 2, 0}, {20, 30, 1}} {
		original := filled(t, puts...)
		twin := &both[int]{t: t, line: original.line.Copy(), puts: slices.Clone(puts)}
		third := &both[int]{t: t, line: twin.line.Copy(), puts: slices.Clone(puts)}
		if !timeline.Same(original.line, twin.line) || !timeline.Same(twin.line, third.line) {
			t.Fatal("a copy is not the same")
		}
		original.hold()
		twin.hold()
		twin.put(more)
		twin.hold()
		original.hold()
		third.hold()
		if timeline.Same(original.line, twin.line) {
			t.Errorf("behind %v a copy is still the same", more)
		}
		original.put(put[int]{2, 5, 1})
		original.put(put[int]{far + 1, last, 2})
		original.hold()
		twin.hold()
		third.hold()
		third.put(more)
		third.hold()
		if !timeline.Same(twin.line, third.line) {
			t.Errorf("behind %v of both, two copies are not the same", more)
		}
	}
	first := filled[int](t)
	twin := &both[int]{t: t, line: first.line.Copy()}
	twin.put(put[int]{3, 7, 5})
	twin.hold()
	first.hold()
}

// P11.3
func TestSame(t *testing.T) {
	for _, c := range []struct {
		a, b []put[int]
		same bool
	}{
		{nil, nil, true},
		{[]put[int]{{3, 7, 5}}, []put[int]{{3, 7, 5}}, true},
		{[]put[int]{{3, 7, 5}, {5, 9, 5}}, []put[int]{{3, 9, 5}}, true},
		{[]put[int]{{3, 5, 5}, {5, 7, 6}}, []put[int]{{5, 7, 6}, {3, 5, 5}}, true},
		{[]put[int]{{3, 5, 5}, {5, 7, 6}}, []put[int]{{3, 7, 6}, {3, 5, 5}}, true},
		{[]put[int]{{3, 9, 5}, {5, 7, 0}}, []put[int]{{7, 9, 5}, {3, 5, 5}}, true},
		{[]put[int]{{3, 9, 5}, {1, end, 0}}, nil, true},
		{[]put[int]{{1, end, 0}, {last, end, 0}}, nil, true},
		{[]put[int]{{1, end, 5}, {5, 9, 6}, {5, 9, 5}}, []put[int]{{1, far, 5}, {far, end, 5}}, true},
		{[]put[int]{{1, 2, 5}, {3, 4, 5}, {2, 3, 5}}, []put[int]{{1, 4, 5}}, true},
		{[]put[int]{{1, end, 1}, {1, end, 2}}, []put[int]{{1, end, 2}}, true},

		{[]put[int]{{3, 7, 5}}, nil, false},
		{[]put[int]{{3, 7, 5}}, []put[int]{{3, 7, 6}}, false},
		{[]put[int]{{3, 7, 5}}, []put[int]{{3, 7, -5}}, false},
		{[]put[int]{{3, 7, 5}}, []put[int]{{3, 6, 5}}, false},
		{[]put[int]{{3, 7, 5}}, []put[int]{{4, 7, 5}}, false},
		{[]put[int]{{3, 7, 5}}, []put[int]{{4, 8, 5}}, false},
		{[]put[int]{{3, 7, 5}}, []put[int]{{3, 7, 5}, {4, 5, 0}}, false},
		{[]put[int]{{3, 7, 5}}, []put[int]{{3, 7, 5}, {4, 5, 6}}, false},
		{[]put[int]{{3, 7, 5}}, []put[int]{{3, 7, 5}, {9, 10, 5}}, false},
		{[]put[int]{{3, 7, 5}}, []put[int]{{3, 7, 5}, {1, 2, 5}}, false},
		{[]put[int]{{3, 7, 5}}, []put[int]{{3, 7, 5}, {last, end, 1}}, false},
		{[]put[int]{{3, 7, 5}, {7, 9, 6}}, []put[int]{{3, 8, 5}, {8, 9, 6}}, false},
		{[]put[int]{{3, 7, 5}, {7, 9, 6}}, []put[int]{{3, 7, 6}, {7, 9, 5}}, false},
		{[]put[int]{{1, end, 5}}, []put[int]{{1, last, 5}}, false},
		{[]put[int]{{1, end, 5}}, []put[int]{{2, end, 5}}, false},
		{[]put[int]{{1, end, 5}}, []put[int]{{1, end, 5}, {far, far + 1, 0}}, false},
		{[]put[int]{{1, end, 5}}, []put[int]{{1, end, 6}}, false},
		{[]put[int]{{far - 1, far + 1, 5}}, []put[int]{{far - 1, far, 5}}, false},
		{[]put[int]{{far, far + 1, 5}}, []put[int]{{far - 1, far, 5}}, false},
	} {
		a, b := filled(t, c.a...), filled(t, c.b...)
		if got := timeline.Same(a.line, b.line); got != c.same {
			t.Errorf("same of %v and %v: %v", c.a, c.b, got)
		}
		if got := timeline.Same(b.line, a.line); got != c.same {
			t.Errorf("same of %v and %v: %v", c.b, c.a, got)
		}
		if !timeline.Same(a.line, a.line) || !timeline.Same(b.line, b.line) {
			t.Errorf("one of %v and %v is not the same as itself", c.a, c.b)
		}
		a.hold()
		b.hold()
	}
}

// puts are all values of some on all spans of some days from one on.
func puts(from, days int, values ...int) []put[int] {
	var l []put[int]
	for i := range days {
		for j := i + 1; j <= days; j++ {
			for _, v := range values {
				l = append(l, put[int]{from + i, from + j, v})
			}
		}
	}
	return l
}

// corners are days from which on some are looked at: both ends of all days, days amidst, and those about each that is as many as a tree may have items behind the first one.
func corners(days int) []int {
	return []int{first, 700, far - days/2, far + api.MaxItems - 1, last - api.MaxItems + 1, 3*api.MaxItems - 1, end - days}
}

// cells are days side by side, kept one by one; ahead of and behind them the value is 0.
type cells struct {
	from   int
	values []int
}

func (c cells) put(p put[int]) {
	for day := p.from; day < p.to; day++ {
		c.values[day-c.from] = p.v
	}
}

// segs are the segments over those of the cells from i on, below j, gone over one by one.
func (c cells) segs(i, j int) []api.Seg[int] {
	var l []api.Seg[int]
	for ; i < j; i++ {
		if n := len(l); n > 0 && l[n-1].V == c.values[i] {
			l[n-1].To++
		} else {
			l = append(l, seg(c.from+i, c.from+i+1, c.values[i]))
		}
	}
	return l
}

// hold holds all that a timeline tells of the cells against them, and that there is nothing ahead of and behind them.
func (c cells) hold(t *testing.T, line *timeline.Timeline[int], puts ...put[int]) {
	t.Helper()
	n := len(c.values)
	count := 0
	for _, x := range c.segs(0, n) {
		if x.V != 0 {
			count++
		}
	}
	if got := line.Pieces(); got != count {
		t.Fatalf("pieces of %v: %d, not %d", puts, got, count)
	}
	for i, v := range c.values {
		if got := line.At(c.from + i); got != v {
			t.Fatalf("at %d of %v: %d, not %d", c.from+i, puts, got, v)
		}
		for j := i + 1; j <= n; j++ {
			want := c.segs(i, j)
			s := span(c.from+i, c.from+j)
			if l := line.Segs(s); !slices.Equal(l, want) {
				t.Fatalf("segs %v of %v: %v, not %v", s, puts, l, want)
			}
			var ends []int
			for _, x := range want[1:] {
				ends = append(ends, x.From)
			}
			if l := line.Ends(s); !slices.Equal(l, ends) {
				t.Fatalf("ends %v of %v: %v, not %v", s, puts, l, ends)
			}
		}
	}
	if line.At(c.from-1) != 0 || line.At(c.from+n) != 0 {
		t.Fatalf("something beside %v", puts)
	}
}

// P11.1, P11.2: all runs of three puts of three values to four days, at some places, are held day by day.
func TestAllPuts(t *testing.T) {
	const days = 4
	for _, from := range corners(days) {
		l := puts(from, days, 0, 1, 2)
		for _, x := range l {
			one := timeline.New[int]()
			one.Put(span(x.from, x.to), x.v)
			for _, y := range l {
				two := one.Copy()
				two.Put(span(y.from, y.to), y.v)
				for _, z := range l {
					line := two.Copy()
					line.Put(span(z.from, z.to), z.v)
					c := cells{from, make([]int, days)}
					c.put(x)
					c.put(y)
					c.put(z)
					c.hold(t, line, x, y, z)
				}
			}
		}
	}
}

// P11.3: of all pairs of runs of two puts to three days just those whose days are the same are the same; a copy is the same, too.
func TestAllSame(t *testing.T) {
	const days = 3
	type run struct {
		line *timeline.Timeline[int]
		days [days]int
	}
	for _, from := range []int{first, far - 1, end - days} {
		var runs []run
		for _, x := range puts(from, days, 0, 1, 2) {
			for _, y := range puts(from, days, 0, 1, 2) {
				line := timeline.New[int]()
				line.Put(span(x.from, x.to), x.v)
				line.Put(span(y.from, y.to), y.v)
				c := cells{from, make([]int, days)}
				c.put(x)
				c.put(y)
				runs = append(runs, run{line, [days]int(c.values)})
			}
		}
		for _, a := range runs {
			if !timeline.Same(a.line, a.line.Copy()) {
				t.Fatalf("a copy of %v from %d on is not the same", a.days, from)
			}
			for _, b := range runs {
				if got := timeline.Same(a.line, b.line); got != (a.days == b.days) {
					t.Fatalf("same of %v and %v from %d on: %v", a.days, b.days, from, got)
				}
			}
		}
	}
}

// mixed are puts of no order that could be told, of spans of many lengths, the same each time.
func mixed[V comparable](seed int64, count int, values []V) []put[V] {
	r := rand.New(rand.NewSource(seed))
	var l []put[V]
	for range count {
		length := 1 + r.Intn(1<<r.Intn(22))
		from := first + r.Intn(last)
		if len(l) > 0 && r.Intn(3) == 0 { // beside one that was put
			p := l[r.Intn(len(l))]
			from = []int{p.from, p.to, p.from - length, p.to - length}[r.Intn(4)]
		}
		from = min(max(from, first), last)
		l = append(l, put[V]{from, min(from+length, end), values[r.Intn(len(values))]})
	}
	return l
}

// P11.1, P11.2
func TestMixed(t *testing.T) {
	for seed := range int64(100) {
		b := filled[int](t)
		for _, p := range mixed(seed, 60, []int{0, 0, 1, 2, 3, -1}) {
			b.put(p)
			b.whole()
		}
		r := rand.New(rand.NewSource(seed))
		l := b.bounds()
		for range 200 {
			i, j := r.Intn(len(l)), r.Intn(len(l))
			if i != j {
				b.span(span(l[min(i, j)], l[max(i, j)]))
			}
		}
	}
}

// P11.1, P11.2: there may be more pieces than a tree may have items.
func TestManyPieces(t *testing.T) {
	const count = api.MaxItems + 1000
	line := timeline.New[uint8]()
	value := func(day int) uint8 { return 1 + uint8(day%3) }
	for day := first; day <= count; day++ {
		if e := line.Put(span(day, day+1), value(day)); e != api.OK {
			t.Fatalf("put %d: %d", day, e)
		}
	}
	if got := line.Pieces(); got != count {
		t.Fatalf("%d pieces", got)
	}
	l := line.Segs(span(1, count+1))
	if len(l) != count {
		t.Fatalf("%d segments", len(l))
	}
	for i, x := range l {
		if x != (api.Seg[uint8]{From: i + 1, To: i + 2, V: value(i + 1)}) {
			t.Fatalf("segment %d is %v", i, x)
		}
		if i%17 == 0 && line.At(x.From) != x.V {
			t.Fatalf("at %d: %d", x.From, line.At(x.From))
		}
	}
	if e := line.Put(span(2, count), 9); e != api.OK || line.Pieces() != 3 {
		t.Fatalf("put over almost all: %d, %d pieces", e, line.Pieces())
	}
	want := []api.Seg[uint8]{{From: 1, To: 2, V: value(1)}, {From: 2, To: count, V: 9}, {From: count, To: count + 1, V: value(count)}, {From: count + 1, To: end}}
	if l := line.Segs(all()); !slices.Equal(l, want) {
		t.Fatal(l)
	}
}

// held holds timelines of some type's values, by some of these.
func held[V comparable](t *testing.T, values ...V) {
	t.Helper()
	var zero V
	values = append(values, zero)
	for seed := range int64(4) {
		l := mixed(seed, 40, values)
		b := filled(t, l...)
		b.whole()
		twin := b.line.Copy()
		if !timeline.Same(b.line, twin) || !timeline.Same(twin, b.line) {
			t.Fatalf("a copy of %T is not the same", zero)
		}
		for _, v := range values {
			day := first + 7*int(seed)
			other := b.line.Copy()
			other.Put(span(day, day+1), v)
			if timeline.Same(b.line, other) != (b.at(day) == v) {
				t.Fatalf("same with %v on the day %d, where it is %v", v, day, b.at(day))
			}
		}
		b.whole()
	}
	for _, v := range values {
		b := filled(t, put[V]{3, 7, v}, put[V]{7, 9, v}, put[V]{5, 6, zero})
		b.hold()
	}
}

// P11.1, P11.2, P11.3: values of types other than whole numbers.
func TestTypes(t *testing.T) {
	type pair struct {
		name string
		n    [2]int8
	}
	type named string
	one, two := 1, 1
	held(t, api.Value{Kind: api.Num, N: api.Dec{C: 15, S: 1}}, api.Value{Kind: api.Num}, api.Value{Kind: api.Num, N: api.Dec{C: 15}}, api.Value{Kind: api.True}, api.Value{Kind: api.False}, api.Value{Kind: api.Bad, E: api.ErrDiv}, api.Value{Kind: api.Bad, E: api.ErrOver})
	held(t, "a", "b", "A", strings.Repeat("a", 1000), "a\x00")
	held(t, named("a"), named("b"))
	held(t, true)
	held[uint8](t, 1, 128, 255)
	held[int64](t, math.MaxInt64, math.MinInt64, -1)
	held(t, 0.5, -0.5, math.Inf(1), math.Inf(-1), math.SmallestNonzeroFloat64)
	held(t, 1i, 1, 1+1i)
	held(t, 'a', 'b')
	held(t, [3]int{0, 0, 1}, [3]int{1, 0, 0})
	held(t, pair{name: "a"}, pair{n: [2]int8{0, 1}}, pair{"a", [2]int8{0, 1}})
	held(t, &one, &two)
	held(t, api.ErrSpan, api.ErrNil)
	held(t, struct{}{})
	held[any](t, 1, "1", int8(1), 0, "", false, pair{}, &one, api.Value{})
	held[fmt.Stringer](t, word("a"), word("b"), word(""))
}

// word is a text that is told as an interface.
type word string

func (w word) String() string { return string(w) }

// P11.1, P11.2, P11.3: a number that is unlike itself, and values that can't be held against each other, make no call panic; on their days they are.
func TestUnlikeItself(t *testing.T) {
	nan := timeline.New[float64]()
	for _, p := range []put[float64]{{3, 9, math.NaN()}, {5, 6, 2}, {9, 12, math.NaN()}, {11, 12, 0}} {
		if e := nan.Put(span(p.from, p.to), p.v); e != api.OK {
			t.Fatalf("put %v: %d", p, e)
		}
	}
	for day, is := range map[int]bool{2: false, 3: true, 4: true, 5: false, 6: true, 8: true, 9: true, 10: true, 11: false, 12: false} {
		if math.IsNaN(nan.At(day)) != is || math.IsNaN(nan.Copy().At(day)) != is {
			t.Errorf("at %d: %v", day, nan.At(day))
		}
	}
	if l := nan.Ends(span(1, 6)); !slices.Equal(l, []int{3, 5}) {
		t.Errorf("ends: %v", l)
	}
	timeline.Same(nan, nan.Copy())
	nan.Put(all(), 0)
	if nan.Pieces() != 0 || !timeline.Same(nan, nil) {
		t.Error("not taken away")
	}

	list := []int{1, 2}
	odd := timeline.New[any]()
	for _, p := range []put[any]{{3, 9, list}, {far - 5, far + 5, list}, {5, 6, 2}, {9, 12, list}, {8, 10, map[int]int{}}, {4, 5, struct{ v any }{list}}, {11, 12, nil}} {
		if e := odd.Put(span(p.from, p.to), p.v); e != api.OK {
			t.Fatalf("put %v: %d", p, e)
		}
	}
	for _, day := range []int{3, 6, 7, 10, far - 5, far, far + 4} {
		if l, is := odd.At(day).([]int); !is || !slices.Equal(l, list) {
			t.Errorf("at %d: %v", day, odd.At(day))
		}
	}
	if l := odd.Ends(all()); !slices.Equal(l, []int{3, 4, 5, 6, 8, 10, 11, far - 5, far + 5}) {
		t.Errorf("ends: %v", l)
	}
	if len(odd.Segs(all())) != 10 || odd.Pieces() != 7 || odd.At(5) != 2 || odd.At(11) != nil {
		t.Errorf("%v, %d pieces", odd.Segs(all()), odd.Pieces())
	}
	timeline.Same(odd, odd.Copy())
	odd.Put(span(12, 20), []int{3})
	odd.Put(span(20, 30), []int{4})
	for day, v := range map[int]int{12: 3, 19: 3, 20: 4, 29: 4} {
		if l, is := odd.At(day).([]int); !is || !slices.Equal(l, []int{v}) {
			t.Errorf("at %d: %v", day, odd.At(day))
		}
	}
	odd.Put(span(1, end), nil)
	if odd.Pieces() != 0 || !timeline.Same(nil, odd) {
		t.Error("not taken away")
	}
}

// P11.1, P11.3: a timeline that is set to another one is no wrong one.
func TestSetTo(t *testing.T) {
	b := filled(t, put[int]{3, 7, 5}, put[int]{9, 12, 6})
	other := *b.line
	if e := other.Put(span(5, 10), 4); e != api.OK {
		t.Fatal(e)
	}
	b.puts = append(b.puts, put[int]{5, 10, 4})
	b.hold()
	b.put(put[int]{6, 11, 3})
	b.line = &other
	b.hold()
}

// P11.2: what is told may be written over, and changes nothing that is told later; no two calls tell one memory.
func TestToldIsFree(t *testing.T) {
	b := filled(t, put[int]{1, 2, 4}, put[int]{3, 7, 5}, put[int]{7, 9, 6}, put[int]{last, end, 8})
	for _, s := range append(some(), span(1, 10), span(4, 6)) {
		l, more := b.line.Segs(s), b.line.Segs(s)
		ends, rest := b.line.Ends(s), b.line.Ends(s)
		for i := range l {
			l[i] = seg(least, most, 77)
		}
		for i := range ends {
			ends[i] = -1
		}
		_ = append(l, seg(7, 8, 9))
		_ = append(ends, 5)
		if !slices.Equal(more, b.segs(s)) || !slices.Equal(rest, b.ends(s)) {
			t.Errorf("of %v: %v, %v", s, more, rest)
		}
		b.whole()
	}
	b.hold()
	told := b.line.Segs(all())
	ends := b.line.Ends(all())
	want, days := slices.Clone(told), slices.Clone(ends)
	b.put(put[int]{1, end, 3})
	if !slices.Equal(told, want) || !slices.Equal(ends, days) {
		t.Error("what was told ahead is changed by a put:", told, ends)
	}
}

// P11.1, P11.2, P11.3: no call but Put changes a timeline, and what is told hangs on no call ahead.
func TestAgain(t *testing.T) {
	b := filled(t, mixed(7, 60, []int{0, 1, 2})...)
	c := filled(t, mixed(8, 60, []int{0, 1, 2})...)
	ask := func() string {
		l := []string{fmt.Sprint(b.line.Pieces(), c.line.Pieces(), timeline.Same(b.line, c.line), timeline.Same(c.line, b.line), timeline.Same(b.line, b.line))}
		for _, s := range append(some(), refused()...) {
			l = append(l, fmt.Sprint(b.line.Segs(s), b.line.Ends(s), c.line.Segs(s), c.line.Ends(s), b.line.At(s.From), c.line.At(s.To)))
		}
		return strings.Join(l, "\n")
	}
	was := ask()
	for range 3 {
		b.line.Copy().Put(span(5, last), 9)
		c.line.Copy().Put(span(1, end), 0)
		if ask() != was {
			t.Fatal("asked once more, another answer")
		}
	}
	b.whole()
	c.whole()
}

// TestExamples are the chapter's examples.
func TestExamples(t *testing.T) { // P11.1, P11.2
	line := timeline.New[int]()
	for _, c := range []struct {
		put  put[int]
		want []api.Seg[int]
	}{
		{put[int]{3, 7, 5}, []api.Seg[int]{{From: 1, To: 3, V: 0}, {From: 3, To: 7, V: 5}, {From: 7, To: 10, V: 0}}},
		{put[int]{5, 9, 5}, []api.Seg[int]{{From: 1, To: 3, V: 0}, {From: 3, To: 9, V: 5}, {From: 9, To: 10, V: 0}}},
		{put[int]{4, 6, 0}, []api.Seg[int]{{From: 1, To: 3, V: 0}, {From: 3, To: 4, V: 5}, {From: 4, To: 6, V: 0}, {From: 6, To: 9, V: 5}, {From: 9, To: 10, V: 0}}},
	} {
		if e := line.Put(span(c.put.from, c.put.to), c.put.v); e != api.OK {
			t.Errorf("put %v: %d", c.put, e)
		}
		if l := line.Segs(span(1, 10)); !slices.Equal(l, c.want) {
			t.Errorf("behind %v: %v, not %v", c.put, l, c.want)
		}
	}
}
