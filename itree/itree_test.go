package itree_test

import (
	"cmp"
	"iter"
	"math"
	"slices"
	"testing"

	"corrody/api"
	"corrody/avl"
	"corrody/itree"
)

const (
	most  = math.MaxInt
	least = math.MinInt
)

// of is an item of its three numbers.
func of(from, to, id int) api.Item { return api.Item{From: from, To: to, ID: id} }

// span is a span of its two numbers.
func span(from, to int) api.Span { return api.Span{From: from, To: to} }

// order holds two items against each other by From, then To, then ID.
func order(x, y api.Item) int {
	if c := cmp.Compare(x.From, y.From); c != 0 {
		return c
	}
	if c := cmp.Compare(x.To, y.To); c != 0 {
		return c
	}
	return cmp.Compare(x.ID, y.ID)
}

// both are a tree, and the rising list of what is in it.
type both struct {
	t    *testing.T
	tree *avl.Tree
	want []api.Item
}

// filled is a tree of some items, put in their order.
func filled(t *testing.T, items ...api.Item) *both {
	t.Helper()
	tree, e := avl.New(api.MaxItems)
	if e != api.OK {
		t.Fatal("new:", e)
	}
	b := &both{t: t, tree: tree}
	for _, x := range items {
		b.insert(x)
	}
	return b
}

func (b *both) insert(x api.Item) {
	b.t.Helper()
	if e := b.tree.Insert(x); e != api.OK {
		b.t.Fatalf("insert %v: %d", x, e)
	}
	i, _ := slices.BinarySearchFunc(b.want, x, order)
	b.want = slices.Insert(b.want, i, x)
}

func (b *both) remove(x api.Item) {
	b.t.Helper()
	if e := b.tree.Delete(x); e != api.OK {
		b.t.Fatalf("delete %v: %d", x, e)
	}
	i, _ := slices.BinarySearchFunc(b.want, x, order)
	b.want = slices.Delete(b.want, i, i+1)
}

// shape is a tree as it is told: all nodes from the root on, each ahead of those below it.
func (b *both) shape() []api.Knot {
	var l []api.Knot
	var down func(place int)
	down = func(place int) {
		if k, ok := b.tree.Node(place); ok {
			l = append(l, k)
			down(k.Left)
			down(k.Right)
		}
	}
	down(b.tree.Root())
	return l
}

// having are, of rising items, those that have a day: by the chapter's words.
func having(items []api.Item, day int) []api.Item {
	var l []api.Item
	for _, x := range items {
		if x.From <= day && day < x.To {
			l = append(l, x)
		}
	}
	return l
}

// meeting are, of rising items, those that meet a span: by the chapter's words.
func meeting(items []api.Item, s api.Span) []api.Item {
	var l []api.Item
	for _, x := range items {
		if s.From < s.To && x.From < x.To && x.From < s.To && s.From < x.To {
			l = append(l, x)
		}
	}
	return l
}

// taken are the first items that are told, at most so many.
func taken(items iter.Seq[api.Item], count int) []api.Item {
	var l []api.Item
	items(func(x api.Item) bool {
		if len(l) == count {
			return false
		}
		l = append(l, x)
		return true
	})
	return l
}

// stab holds Stab of a day against the list.
func (b *both) stab(day int) {
	b.t.Helper()
	if l, want := itree.Stab(b.tree, day), having(b.want, day); !slices.Equal(l, want) {
		b.t.Fatalf("stab %d of %v: %v, not %v", day, b.want, l, want)
	}
}

// overlap holds Overlap and All of a span against the list.
func (b *both) overlap(s api.Span) {
	b.t.Helper()
	want := meeting(b.want, s)
	if l := itree.Overlap(b.tree, s); !slices.Equal(l, want) {
		b.t.Fatalf("overlap %v of %v: %v, not %v", s, b.want, l, want)
	}
	all := itree.All(b.tree, s)
	for range 2 {
		if l := slices.Collect(all); !slices.Equal(l, want) {
			b.t.Fatalf("all %v of %v: %v, not %v", s, b.want, l, want)
		}
	}
}

// ends holds First and Last of a day against the list.
func (b *both) ends(day int) {
	b.t.Helper()
	var first, last api.Item
	var anyFirst, anyLast bool
	for _, x := range b.want {
		if x.From >= day && !anyFirst {
			first, anyFirst = x, true
		}
		if x.From <= day {
			last, anyLast = x, true
		}
	}
	if x, ok := itree.First(b.tree, day); x != first || ok != anyFirst {
		b.t.Fatalf("first %d of %v: %v, %v, not %v, %v", day, b.want, x, ok, first, anyFirst)
	}
	if x, ok := itree.Last(b.tree, day); x != last || ok != anyLast {
		b.t.Fatalf("last %d of %v: %v, %v, not %v, %v", day, b.want, x, ok, last, anyLast)
	}
}

// check holds all questions about some numbers, and all spans of two of them, against the list; the tree stays.
func (b *both) check(numbers []int) {
	b.t.Helper()
	was := b.shape()
	for _, n := range numbers {
		b.stab(n)
		b.ends(n)
		for _, m := range numbers {
			b.overlap(span(n, m))
		}
	}
	if !slices.Equal(b.shape(), was) || !slices.Equal(b.tree.Items(), b.want) {
		b.t.Fatalf("asked: %v, which was %v", b.shape(), was)
	}
}

// near are, rising, the bounds of items, the numbers beside them, and the least and the greatest ones.
func near(items ...api.Item) []int {
	l := []int{least, least + 1, -1, 0, 1, most - 1, most}
	for _, x := range items {
		for _, n := range []int{x.From, x.To} {
			l = append(l, n)
			if n > least {
				l = append(l, n-1)
			}
			if n < most {
				l = append(l, n+1)
			}
		}
	}
	slices.Sort(l)
	return slices.Compact(l)
}

// upTo are the numbers from one on, up to another one.
func upTo(from, to int) []int {
	var l []int
	for n := from; n <= to; n++ {
		l = append(l, n)
	}
	return l
}

// orders are the numbers 0 to n-1 in each order.
func orders(n int) [][]int {
	if n == 0 {
		return [][]int{nil}
	}
	var l [][]int
	for _, o := range orders(n - 1) {
		for i := range n {
			l = append(l, slices.Insert(slices.Clone(o), i, n-1))
		}
	}
	return l
}

// mixed are numbers by a rule that goes to and fro.
type mixed uint64

func (m *mixed) below(n int) int {
	*m = *m*6364136223846793005 + 1442695040888963407
	return int(uint64(*m) >> 33 % uint64(n))
}

// The chapter's examples.
func TestExamples(t *testing.T) {
	b := filled(t, of(1, 5, 0), of(3, 4, 0), of(6, 9, 0))
	if l := itree.Stab(b.tree, 3); !slices.Equal(l, []api.Item{of(1, 5, 0), of(3, 4, 0)}) {
		t.Error("stab 3:", l)
	}
	if l := itree.Overlap(b.tree, span(4, 7)); !slices.Equal(l, []api.Item{of(1, 5, 0), of(6, 9, 0)}) {
		t.Error("overlap 4 7:", l)
	}
	if x, ok := itree.First(b.tree, 2); !ok || x != of(3, 4, 0) {
		t.Error("first 2:", x, ok)
	}
	if x, ok := itree.Last(b.tree, 2); !ok || x != of(1, 5, 0) {
		t.Error("last 2:", x, ok)
	}
	b.check(upTo(-2, 12))
}

// P9.1: one item; a day at, ahead of and behind each of its ends.
func TestStabOfOne(t *testing.T) {
	b := filled(t, of(5, 8, 3))
	for day, want := range map[int]bool{4: false, 5: true, 6: true, 7: true, 8: false, 9: false, 0: false, -5: false, least: false, most: false} {
		if l := itree.Stab(b.tree, day); len(l) > 1 || (len(l) == 1) != want || want && l[0] != of(5, 8, 3) {
			t.Error("stab", day, l)
		}
	}
	b.check(near(b.want...))
}

// P9.1, P9.2: one item; a span that ends where it begins, begins where it ends, holds it, lies in it, cuts it, is none.
func TestOverlapOfOne(t *testing.T) {
	b := filled(t, of(5, 8, 3))
	for s, want := range map[api.Span]bool{
		span(1, 5): false, span(4, 5): false, span(least, 5): false, span(8, 9): false, span(8, 20): false, span(8, most): false, span(1, 4): false, span(9, 10): false,
		span(5, 8): true, span(4, 9): true, span(least, most): true, span(5, 9): true, span(4, 8): true, span(6, 7): true, span(5, 6): true, span(7, 8): true, span(6, 8): true,
		span(1, 6): true, span(least, 6): true, span(7, 20): true, span(7, most): true, span(-5, 6): true,
		span(5, 5): false, span(6, 6): false, span(7, 7): false, span(8, 8): false, span(0, 0): false, span(least, least): false, span(most, most): false,
		span(8, 5): false, span(7, 6): false, span(9, 4): false, span(most, least): false, span(6, least): false, span(most, 6): false, span(7, 5): false,
	} {
		l, told := itree.Overlap(b.tree, s), slices.Collect(itree.All(b.tree, s))
		if len(l) > 1 || (len(l) == 1) != want || want && l[0] != of(5, 8, 3) {
			t.Error("overlap", s, l)
		}
		if !slices.Equal(l, told) {
			t.Error("all", s, told)
		}
	}
	b.check(near(b.want...))
}

// P9.1, P9.2, P9.3: a tree without items; also one that had some.
func TestNoItems(t *testing.T) {
	b := filled(t)
	b.check(near())
	b.check(upTo(-3, 3))
	for i := range 9 {
		b.insert(of(i, i+2, i))
	}
	for i := range 9 {
		b.remove(of(i, i+2, i))
	}
	b.check(near(of(0, 10, 0)))
	if l := itree.Stab(b.tree, 3); len(l) != 0 {
		t.Error(l)
	}
	if x, ok := itree.First(b.tree, least); ok || x != (api.Item{}) {
		t.Error(x, ok)
	}
	if x, ok := itree.Last(b.tree, most); ok || x != (api.Item{}) {
		t.Error(x, ok)
	}
}

// few are some items of all intervals between a few numbers.
func few(low, high int) []api.Item {
	var l []api.Item
	for from := low; from < high; from++ {
		for to := from + 1; to <= high; to++ {
			l = append(l, of(from, to, 1), of(from, to, -1))
		}
	}
	return l
}

// P9.1, P9.2, P9.3: each tree of at most three of the items between a few numbers, and each question about these.
func TestFewItems(t *testing.T) {
	l := few(-2, 2)
	numbers := upTo(-3, 3)
	for i := range l {
		filled(t, l[i]).check(numbers)
		for j := range i {
			filled(t, l[i], l[j]).check(numbers)
			for k := range j {
				filled(t, l[j], l[i], l[k]).check(numbers)
			}
		}
	}
}

// P9.1, P9.2, P9.3: a few items put in each order.
func TestEachOrder(t *testing.T) {
	l := []api.Item{of(0, 9, 0), of(1, 3, 0), of(1, 3, 4), of(1, 7, -2), of(4, 5, 1), of(6, 8, 0)}
	for _, o := range orders(len(l)) {
		b := filled(t)
		for _, i := range o {
			b.insert(l[i])
		}
		b.check(upTo(-1, 10))
	}
}

// P9.1, P9.2, P9.3: items that are the same but for To, or for ID.
func TestAlike(t *testing.T) {
	b := filled(t)
	for _, n := range []int{least, -7, -1, 0, 1, 2, 7, most} {
		b.insert(of(3, 7, n))
		if n > 3 {
			b.insert(of(3, n, 5))
		}
		if n < 7 {
			b.insert(of(n, 7, 5))
		}
	}
	b.check(near(b.want...))
	x, ok := itree.First(b.tree, 3)
	if !ok || x != of(3, 7, least) {
		t.Error("first 3:", x, ok)
	}
	if x, ok = itree.Last(b.tree, 3); !ok || x != of(3, most, 5) {
		t.Error("last 3:", x, ok)
	}
	for _, n := range []int{least, most, 0} {
		b.remove(of(3, 7, n))
		b.check(near(b.want...))
	}
	if x, ok = itree.First(b.tree, 3); !ok || x != of(3, 7, -7) {
		t.Error("first 3:", x, ok)
	}
}

// P9.1, P9.2, P9.3: numbers below 0, the least and the greatest ones.
func TestLeastAndGreatest(t *testing.T) {
	l := []api.Item{
		of(least, most, 0), of(least, most, least), of(least, most, most), of(least, least+1, 0), of(least, -5, 1), of(least+1, 0, -1), of(most-1, most, most),
		of(5, most, 0), of(-9, -3, 2), of(-5, -4, least), of(-1, 0, 0), of(0, 1, most), of(-3, 5, 0), of(0, most-1, 1), of(most-2, most-1, 0),
	}
	for first := range l {
		b := filled(t)
		for i := range l {
			b.insert(l[(first+i*7)%len(l)])
		}
		b.check(near(l...))
	}
	for i := range l {
		b := filled(t, l[i])
		b.check(near(l...))
		b.insert(l[(i+1)%len(l)])
		b.check(near(l...))
	}
	b := filled(t, of(least, most, 0))
	for day, want := range map[int]int{least: 1, least + 1: 1, 0: 1, most - 1: 1, most: 0} {
		if l := itree.Stab(b.tree, day); len(l) != want {
			t.Error("stab", day, l)
		}
	}
	b = filled(t, of(least, least+1, 0), of(most-1, most, 0))
	for s, want := range map[api.Span]int{span(least, most): 2, span(least, least+1): 1, span(least+1, most): 1, span(least+1, most-1): 0, span(most-1, most): 1, span(least, most-1): 1, span(most, least): 0} {
		if l := itree.Overlap(b.tree, s); len(l) != want {
			t.Error("overlap", s, l)
		}
	}
}

// rows are ways to put n items in a row.
func rows(n int) map[string]func(i int) int {
	return map[string]func(i int) int{
		"rising":    func(i int) int { return i },
		"falling":   func(i int) int { return n - 1 - i },
		"both ends": func(i int) int { return i/2 + i%2*(n-1-i/2*2) },
		"by leaps":  func(i int) int { return i * 37 % n },
	}
}

// P9.1, P9.2, P9.3: items that lie in each other; each one's ends are asked, all put, and with each third one taken away.
func TestNested(t *testing.T) {
	const n = 60
	for name, place := range rows(n) {
		b := filled(t)
		for i := range n {
			b.insert(of(place(i), 2*n-place(i), place(i)%4))
		}
		b.check(upTo(-1, 2*n+1))
		if l := itree.Stab(b.tree, n); len(l) != n {
			t.Error(name, len(l))
		}
		for i := range n / 3 {
			x := b.want[2*i]
			b.remove(x)
			b.stab(x.From)
			b.stab(x.To)
		}
		b.check(upTo(-1, 2*n+1))
	}
}

// P9.1, P9.2, P9.3: some items that reach far over many that don't, and some that are put again.
func TestFarOverMany(t *testing.T) {
	const n = 60
	for _, every := range []int{1, 2, 7, 40, n} {
		for _, place := range rows(n) {
			b := filled(t)
			for i := range n {
				from := place(i)
				x := of(from, from+1, 0)
				if from%every == every/2 {
					x.To = from + 1 + n/2
				}
				b.insert(x)
			}
			b.check(upTo(-1, n+8))
			for i := range n {
				if i%5 < 3 {
					b.remove(b.want[i*7%len(b.want)])
				}
			}
			b.insert(of(n/2, n/2+1, 9))
			b.check(upTo(n/2-20, n+40))
		}
	}
}

// P9.1, P9.2, P9.3: puts and deletes by a rule that goes to and fro.
func TestToAndFro(t *testing.T) {
	m := mixed(2026)
	for _, size := range []int{6, 25, 90} {
		b := filled(t)
		for range 250 {
			from := m.below(size) - size/2
			x := of(from, from+1+m.below(3)*m.below(size), m.below(3)-1)
			if i := m.below(len(b.want) + 1); m.below(5) < 2 && i < len(b.want) {
				b.remove(b.want[i])
			} else if !b.tree.Has(x) {
				b.insert(x)
			}
			n, d := m.below(size)-size/2, m.below(size)
			b.check([]int{n - d - 1, n - 1, n, n + 1, n + d + 2})
		}
		b.check(upTo(-size/2-1, size*2))
	}
}

// P9.2: broken off at each place, and gone over again behind it.
func TestAllBrokenOff(t *testing.T) {
	b := filled(t)
	for i := range 40 {
		b.insert(of(i*11%40, i*11%40+1+i%3*i%17, i%2))
	}
	for _, s := range []api.Span{span(least, most), span(0, 1), span(10, 20), span(39, 60), span(17, 18), span(90, 95), span(7, 7), span(8, 7)} {
		want, all, was := meeting(b.want, s), itree.All(b.tree, s), b.shape()
		for count := range len(want) + 3 {
			if l := taken(all, count); !slices.Equal(l, want[:min(count, len(want))]) {
				t.Errorf("the first %d of %v: %v, not of %v", count, s, l, want)
			}
			if l := slices.Collect(all); !slices.Equal(l, want) {
				t.Errorf("%v behind the first %d: %v, not %v", s, count, l, want)
			}
		}
		if !slices.Equal(b.shape(), was) {
			t.Error("broken off:", s)
		}
	}
}

// P9.2: nothing is told behind the item at which it is broken off.
func TestAllBrokenOffInALoop(t *testing.T) {
	b := filled(t, of(1, 5, 0), of(3, 4, 0), of(3, 9, 0), of(6, 9, 0))
	all := itree.All(b.tree, span(2, 8))
	for last, want := range b.want {
		at := 0
		for x := range all {
			if x != b.want[at] {
				t.Fatal(last, at, x)
			}
			if at == last {
				break
			}
			at++
		}
		if at != last || b.want[at] != want {
			t.Error(last, at)
		}
	}
	for range all {
		return
	}
	t.Error("nothing is told")
}

// P9.2: gone over again behind an Insert and a Delete; the tree as it is then.
func TestAllAgain(t *testing.T) {
	b := filled(t, of(1, 5, 0), of(3, 4, 0), of(6, 9, 0))
	s := span(4, 7)
	all := itree.All(b.tree, s)
	none := itree.All(b.tree, span(7, 4))
	far := itree.All(b.tree, span(20, 30))
	again := func() {
		t.Helper()
		if l := slices.Collect(all); !slices.Equal(l, meeting(b.want, s)) {
			t.Errorf("%v of %v", l, b.want)
		}
		if l := slices.Collect(none); len(l) != 0 {
			t.Error(l)
		}
		if l := slices.Collect(far); !slices.Equal(l, meeting(b.want, span(20, 30))) {
			t.Error(l)
		}
	}
	again()
	b.insert(of(4, 5, 7))
	again()
	b.remove(of(1, 5, 0))
	again()
	b.insert(of(-9, 90, 7))
	again()
	b.insert(of(0, 4, 7))
	b.insert(of(7, 8, 7))
	again()
	for i := range 50 {
		b.insert(of(i-20, i-18+i%4, i))
		again()
	}
	for len(b.want) > 0 {
		b.remove(b.want[len(b.want)/3])
		again()
	}
	b.insert(of(5, 6, 0))
	again()
	for range all {
		return
	}
	t.Error("nothing is told")
}

// P9.2: told ahead of the first item of a tree, gone over behind it.
func TestAllOfLaterItems(t *testing.T) {
	b := filled(t)
	all := itree.All(b.tree, span(0, 9))
	b.insert(of(2, 3, 0))
	if l := slices.Collect(all); !slices.Equal(l, b.want) {
		t.Error(l)
	}
	b.remove(of(2, 3, 0))
	if l := slices.Collect(all); len(l) != 0 {
		t.Error(l)
	}
}

// P9.2: gone over inside a going over of the same, and of another.
func TestAllInside(t *testing.T) {
	a, b := filled(t), filled(t)
	for i := range 30 {
		a.insert(of(i*7%30, i*7%30+2+i%5, 0))
		b.insert(of(i*11%30-9, i*11%30+3, i))
	}
	all, want := itree.All(a.tree, span(5, 25)), meeting(a.want, span(5, 25))
	other, wantOther := itree.All(b.tree, span(3, 12)), meeting(b.want, span(3, 12))
	at := 0
	for x := range all {
		if x != want[at] {
			t.Fatal(at, x)
		}
		at++
		in := 0
		for y := range all {
			if y != want[in] {
				t.Fatal("inside", at, in, y)
			}
			if in++; in == at {
				break
			}
		}
		if l := slices.Collect(all); !slices.Equal(l, want) {
			t.Fatal("inside", at, l)
		}
		if l := slices.Collect(other); !slices.Equal(l, wantOther) {
			t.Fatal("another inside", at, l)
		}
		a.stab(at)
		a.overlap(span(at, at+9))
		a.ends(at)
	}
	if at != len(want) {
		t.Error(at, "of", len(want))
	}
}

// behind are, of rising items, those that are greater than one of them.
func behind(items []api.Item, x api.Item) []api.Item {
	for i, y := range items {
		if order(x, y) < 0 {
			return items[i:]
		}
	}
	return nil
}

// P9.2, P1: what is told is taken away, item by item.
func TestAllTakenAway(t *testing.T) {
	for _, s := range []api.Span{span(least, most), span(10, 30), span(0, 1)} {
		b := filled(t)
		for i := range 70 {
			b.insert(of(i*13%70, i*13%70+1+i%9, 0))
		}
		want := meeting(b.want, s)
		var told []api.Item
		for x := range itree.All(b.tree, s) {
			told = append(told, x)
			b.remove(x)
		}
		if !slices.Equal(told, want) || len(meeting(b.want, s)) != 0 {
			t.Errorf("%v: %v, not %v", s, told, want)
		}
		b.check(upTo(-1, 90))
	}
}

// P9.2, P1: the tree changes while it is gone over: each item is the least one behind the one ahead, of the tree as it is then.
func TestAllOfAChangingTree(t *testing.T) {
	m := mixed(9)
	for round := range 400 {
		b := filled(t)
		for range m.below(40) + 1 {
			if x := of(m.below(50), 50+m.below(50), m.below(9)); !b.tree.Has(x) {
				b.insert(x)
			}
		}
		s := span(m.below(60), 40+m.below(60))
		next := meeting(b.want, s)
		for x := range itree.All(b.tree, s) {
			if len(next) == 0 || x != next[0] {
				t.Fatalf("%v in %v: %v, not of %v", round, s, x, next)
			}
			for range m.below(6) {
				y := of(m.below(50), 50+m.below(50), m.below(9))
				if i := m.below(len(b.want) + 1); m.below(3) > 0 && i < len(b.want) {
					b.remove(b.want[i])
				} else if !b.tree.Has(y) {
					b.insert(y)
				}
			}
			next = behind(meeting(b.want, s), x)
		}
		if len(next) != 0 {
			t.Fatalf("%v in %v: %v are left", round, s, next)
		}
		b.check([]int{-1, 0, 20, 49, 50, 70, 101})
	}
}

// P9.2, P1: the tree is emptied, and filled with many, while it is gone over.
func TestAllEmptiedAndFilled(t *testing.T) {
	b := filled(t)
	for i := range 9 {
		b.insert(of(i, 99, 0))
	}
	told := 0
	for x := range itree.All(b.tree, span(0, 99)) {
		told++
		for len(b.want) > 0 {
			b.remove(b.want[0])
		}
		if x.From > 0 {
			t.Fatal(x)
		}
	}
	if told != 1 {
		t.Error(told)
	}
	b.insert(of(0, 99, 0))
	told = 0
	for x := range itree.All(b.tree, span(0, 5000)) {
		if x.From != told {
			t.Fatal(told, x)
		}
		for i := 1; told == 0 && i < 3000; i++ {
			b.insert(of(i, i+1, 0))
			b.insert(of(-i, 1-i, 0))
		}
		told++
	}
	if told != 3000 {
		t.Error(told)
	}
}

// P9.3: a day ahead of all items, behind all, at a From, between two, of items with the same From.
func TestFirstAndLast(t *testing.T) {
	l := []api.Item{of(-5, 90, 0), of(2, 4, 1), of(2, 4, 3), of(2, 9, 0), of(6, 7, 0), of(6, 7, 1), of(11, 12, 5)}
	for name, place := range rows(len(l)) {
		b := filled(t)
		for i := range l {
			if x := l[place(i)]; !b.tree.Has(x) {
				b.insert(x)
			}
		}
		for day, want := range map[int][2]int{
			least: {0, -1}, -6: {0, -1}, -5: {0, 0}, -4: {1, 0}, 1: {1, 0}, 2: {1, 3}, 3: {4, 3}, 5: {4, 3}, 6: {4, 5}, 7: {6, 5}, 10: {6, 5}, 11: {6, 6}, 12: {-1, 6}, 90: {-1, 6}, most: {-1, 6},
		} {
			var first, last api.Item
			if want[0] >= 0 {
				first = l[want[0]]
			}
			if want[1] >= 0 {
				last = l[want[1]]
			}
			if x, ok := itree.First(b.tree, day); x != first || ok != (want[0] >= 0) {
				t.Error(name, "first", day, x, ok)
			}
			if x, ok := itree.Last(b.tree, day); x != last || ok != (want[1] >= 0) {
				t.Error(name, "last", day, x, ok)
			}
		}
		b.check(near(b.want...))
	}
}

// P9.1, P9.2: what is told is in memory of its own.
func TestMemory(t *testing.T) {
	b := filled(t)
	for i := range 20 {
		b.insert(of(i, i+10, -i))
	}
	s, was := span(9, 11), b.shape()
	all := itree.All(b.tree, s)
	for name, call := range map[string]func() []api.Item{
		"stab":    func() []api.Item { return itree.Stab(b.tree, 10) },
		"overlap": func() []api.Item { return itree.Overlap(b.tree, s) },
	} {
		first, second := call(), call()
		want := slices.Clone(first)
		first = first[:cap(first)]
		for i := range first {
			first[i] = of(-7, -8, -9)
		}
		if len(want) < 10 || !slices.Equal(second, want) || !slices.Equal(call(), want) {
			t.Error(name, second, call(), want)
		}
		if !slices.Equal(b.shape(), was) || !slices.Equal(slices.Collect(all), meeting(b.want, s)) {
			t.Error(name, "changed the tree")
		}
		b.insert(of(10, 11, 5))
		b.remove(of(10, 20, -10))
		if !slices.Equal(second, want) {
			t.Error(name, "told ahead of the calls:", second)
		}
		b.remove(of(10, 11, 5))
		b.insert(of(10, 20, -10))
		was = b.shape()
	}
	b.check(upTo(-1, 32))
}

// P9.1, P9.2, P9.3: a tree that is not there, and one that was not made, are asked in vain.
func TestNoTree(t *testing.T) {
	var zero avl.Tree
	for name, tree := range map[string]*avl.Tree{"not there": nil, "not made": {}, "a zero one": &zero} {
		for range 2 { // also behind an Insert that is refused
			for _, n := range []int{least, -1, 0, 1, 2, 5, most - 1, most} {
				if l := itree.Stab(tree, n); len(l) != 0 {
					t.Error(name, "stab", n, l)
				}
				if x, ok := itree.First(tree, n); ok || x != (api.Item{}) {
					t.Error(name, "first", n, x)
				}
				if x, ok := itree.Last(tree, n); ok || x != (api.Item{}) {
					t.Error(name, "last", n, x)
				}
				for _, m := range []int{least, 0, 3, most} {
					if l := itree.Overlap(tree, span(n, m)); len(l) != 0 {
						t.Error(name, "overlap", n, m, l)
					}
					all := itree.All(tree, span(n, m))
					if all == nil {
						t.Fatal(name, "all", n, m)
					}
					for range 2 {
						for x := range all {
							t.Error(name, "all", n, m, x)
						}
					}
				}
			}
			if e := tree.Insert(of(1, 5, 0)); e != api.ErrNil {
				t.Error(name, e)
			}
		}
	}
}

// P9.1, P9.2, P9.3: a copy of a tree is the same tree.
func TestCopy(t *testing.T) {
	b := filled(t, of(1, 5, 0), of(3, 4, 0), of(6, 9, 0))
	u := *b.tree
	other := &both{t: t, tree: &u, want: slices.Clone(b.want)}
	all := itree.All(&u, span(4, 7))
	other.check(upTo(-1, 11))
	b.insert(of(2, 8, 0))
	other.want = slices.Clone(b.want)
	other.check(upTo(-1, 11))
	if l := slices.Collect(all); !slices.Equal(l, meeting(b.want, span(4, 7))) {
		t.Error(l)
	}
}

// some holds the questions about some numbers, in a great tree, against the list.
func (b *both) some(numbers ...int) {
	b.t.Helper()
	for _, n := range numbers {
		b.stab(n)
		b.ends(n)
		b.overlap(span(n, n+1))
		b.overlap(span(n-5, n+5))
		b.overlap(span(n, n))
	}
}

// P9.1, P9.2, P9.3: as many items as may be, of which some reach over all.
func TestMaxItems(t *testing.T) {
	const n = api.MaxItems
	b := filled(t)
	for i := range n {
		x := of(i, i+1+i%4, i)
		if i%100000 == 7 {
			x.To = n + i
		}
		b.want = append(b.want, x)
		if e := b.tree.Insert(x); e != api.OK {
			t.Fatal(i, e)
		}
	}
	b.some(-1, 0, 1, 6, 7, 8, 300000, 300007, 999990, n-1, n, n+1, n+300007, 2*n)
	b.overlap(span(least, most))
	b.overlap(span(n/2, most))
	all := itree.All(b.tree, span(least, most))
	for i := range 1000 {
		if l := taken(all, i%5); !slices.Equal(l, b.want[:i%5]) {
			t.Fatal(i, l)
		}
	}
	for i := range 20000 {
		if l := itree.Stab(b.tree, n+10+i); len(l) == 0 || l[len(l)-1] != of(900007, n+900007, 900007) {
			t.Fatal(i, l)
		}
	}
}

// thin are, level by level, the items of a balanced tree that has the fewest items of its height, from 1 on; the higher side of each is the left one, or the right one.
// Putting them so turns no node.
func thin(height int, left bool) [][]int {
	count := []int{0, 1}
	for h := 2; h <= height; h++ {
		count = append(count, count[h-1]+count[h-2]+1)
	}
	levels := make([][]int, height)
	var down func(level, height, from int)
	down = func(level, height, from int) {
		if height < 1 {
			return
		}
		lower, upper := height-1, max(height-2, 0)
		if !left {
			lower, upper = upper, lower
		}
		own := from + count[lower]
		levels[level] = append(levels[level], own)
		down(level+1, lower, from)
		down(level+1, upper, own+1)
	}
	down(0, height, 1)
	return levels
}

// P9.1, P9.2, P9.3: the greatest height that a tree may have.
func TestDeepest(t *testing.T) {
	const height = 28
	for _, left := range []bool{true, false} {
		b := filled(t)
		for _, level := range thin(height, left) {
			for _, i := range level {
				if e := b.tree.Insert(of(i, i+2, 0)); e != api.OK {
					t.Fatal(i, e)
				}
			}
		}
		n := b.tree.Len()
		for i := 1; i <= n; i++ {
			b.want = append(b.want, of(i, i+2, 0))
		}
		if k, _ := b.tree.Node(b.tree.Root()); k.Height != height {
			t.Fatal("height", k.Height, "of", n)
		}
		b.some(-1, 0, 1, 2, 3, 4, n/2, n-2, n-1, n, n+1, n+2, n+3)
		b.overlap(span(least, most))
		if l := taken(itree.All(b.tree, span(least, most)), 2); !slices.Equal(l, b.want[:2]) {
			t.Error(l)
		}
	}
}
