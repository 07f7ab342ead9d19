package avl_test

import (
	"cmp"
	"math"
	"slices"
	"testing"

	"corrody/api"
	"corrody/avl"
)

const (
	most  = math.MaxInt
	least = math.MinInt
)

// order holds two items against each other by From, then To, then ID.
func order(x, y api.Item) int {
	if c := cmp.Compare(x.From, y.From); c != 0 {
		return c
	}
	if c := cmp.Compare(x.To, y.To); c != 0 {
		return c
	}
	return cmp.Compare(x.ID, y.ID)
}

// both are a tree, and the rising list of what should be in it.
type both struct {
	t    *testing.T
	tree *avl.Tree
	most int
	want []api.Item
}

func made(t *testing.T, most int) *both {
	t.Helper()
	tree, e := avl.New(most)
	if tree == nil || e != api.OK {
		t.Fatalf("new of %d: %v, %d", most, tree, e)
	}
	return &both{t: t, tree: tree, most: most}
}

// filled is a tree of some items, put in their order.
func filled(t *testing.T, most int, items ...api.Item) *both {
	t.Helper()
	b := made(t, most)
	for _, x := range items {
		b.insert(x)
	}
	return b
}

// insert puts an item, and holds the answer against what the list says.
func (b *both) insert(x api.Item) {
	b.t.Helper()
	i, there := slices.BinarySearchFunc(b.want, x, order)
	want := api.OK
	switch {
	case x.From >= x.To:
		want = api.ErrArg
	case there:
		want = api.ErrTwice
	case len(b.want) == b.most:
		want = api.ErrFull
	default:
		b.want = slices.Insert(b.want, i, x)
	}
	if e := b.tree.Insert(x); e != want {
		b.t.Fatalf("insert %v: %d, not %d", x, e, want)
	}
}

// remove deletes an item, and holds the answer against what the list says.
func (b *both) remove(x api.Item) {
	b.t.Helper()
	i, there := slices.BinarySearchFunc(b.want, x, order)
	want := api.ErrNone
	if there {
		want = api.OK
		b.want = slices.Delete(b.want, i, i+1)
	}
	if e := b.tree.Delete(x); e != want {
		b.t.Fatalf("delete %v: %d, not %d", x, e, want)
	}
}

// walk holds all nodes from a place down against what the chapter says of them; it tells their items, rising, their height and top.
func (b *both) walk(place int, told map[int]bool) (items []api.Item, height, top int) {
	b.t.Helper()
	if place == -1 {
		return nil, 0, least
	}
	if told[place] {
		b.t.Fatalf("the place %d is told twice", place)
	}
	told[place] = true
	k, ok := b.tree.Node(place)
	if !ok {
		b.t.Fatalf("no node at %d, which is told", place)
	}
	lower, heightLeft, topLeft := b.walk(k.Left, told)
	upper, heightRight, topRight := b.walk(k.Right, told)
	if d := heightLeft - heightRight; d < -1 || d > 1 {
		b.t.Fatalf("%v is not balanced: %d, %d", k, heightLeft, heightRight)
	}
	if n := len(lower); n > 0 && order(lower[n-1], k.Item) >= 0 {
		b.t.Fatalf("%v is below %v on the left", lower[n-1], k)
	}
	if len(upper) > 0 && order(upper[0], k.Item) <= 0 {
		b.t.Fatalf("%v is below %v on the right", upper[0], k)
	}
	height, top = 1+max(heightLeft, heightRight), max(k.Item.To, topLeft, topRight)
	if k.Height != height || k.Top != top {
		b.t.Fatalf("%v: not height %d, top %d", k, height, top)
	}
	return append(append(lower, k.Item), upper...), height, top
}

// check holds the whole tree against the list.
func (b *both) check() {
	b.t.Helper()
	told := map[int]bool{}
	root := b.tree.Root()
	if (root == -1) != (len(b.want) == 0) {
		b.t.Fatalf("root %d of %d items", root, len(b.want))
	}
	items, height, _ := b.walk(root, told)
	if !slices.Equal(items, b.want) {
		b.t.Fatalf("the nodes have %v, not %v", items, b.want)
	}
	if l := b.tree.Items(); !slices.Equal(l, b.want) {
		b.t.Fatalf("items %v, not %v", l, b.want)
	}
	if n := b.tree.Len(); n != len(b.want) {
		b.t.Fatalf("len %d, not %d", n, len(b.want))
	}
	if float64(height) > 1.45*math.Log2(float64(len(b.want)+2)) {
		b.t.Fatalf("height %d of %d items", height, len(b.want))
	}
	for _, x := range b.want {
		if !b.tree.Has(x) {
			b.t.Fatalf("has not %v", x)
		}
	}
	for place := -3; place < len(b.want)+20; place++ {
		b.other(told, place)
	}
	for _, place := range []int{least, least + 1, -1 << 32, 1 << 32, b.most, b.most + 1, api.MaxItems, most - 1, most} {
		b.other(told, place)
	}
}

// other holds Node at a place that may not be told.
func (b *both) other(told map[int]bool, place int) {
	b.t.Helper()
	k, ok := b.tree.Node(place)
	if ok != told[place] || !ok && k != (api.Knot{}) {
		b.t.Fatalf("node at %d: %v, %v", place, k, ok)
	}
}

// shape is a tree as it is told: all nodes from the root on, each ahead of those below it.
func (b *both) shape() []api.Knot {
	var l []api.Knot
	var down func(place int)
	down = func(place int) {
		if k, ok := b.tree.Node(place); ok {
			l = append(l, k)
			down(k.Left)
			down(k.Right)
		}
	}
	down(b.tree.Root())
	return l
}

// refused holds a call that answers an error: the tree is as it was.
func (b *both) refused(want api.Errno, call func() api.Errno) {
	b.t.Helper()
	root, was := b.tree.Root(), b.shape()
	if e := call(); e != want {
		b.t.Errorf("%d, not %d", e, want)
	}
	if b.tree.Root() != root || !slices.Equal(b.shape(), was) {
		b.t.Errorf("refused by %d: %v, which was %v", want, b.shape(), was)
	}
	b.check()
}

// item is the i-th one of items of which some end behind those that are greater.
func item(i int) api.Item { return api.Item{From: i, To: i + 1 + (i*7%5+5)%5, ID: -i} }

// numbered are the items 0 to n-1.
func numbered(n int) []api.Item {
	var l []api.Item
	for i := range n {
		l = append(l, item(i))
	}
	return l
}

// orders are the numbers 0 to n-1 in each order.
func orders(n int) [][]int {
	if n == 0 {
		return [][]int{nil}
	}
	var l [][]int
	for _, o := range orders(n - 1) {
		for i := range n {
			l = append(l, slices.Insert(slices.Clone(o), i, n-1))
		}
	}
	return l
}

// alike are items that are the same but for one part each, with the least and the greatest numbers.
func alike() []api.Item {
	var l []api.Item
	for _, n := range []int{least, least + 1, -5, -1, 0, 1, 5, most - 1, most} {
		l = append(l, api.Item{From: 3, To: 7, ID: n})
		if n > -9 {
			l = append(l, api.Item{From: -9, To: n, ID: 2})
		}
		if n < 9 {
			l = append(l, api.Item{From: n, To: 9, ID: 2})
		}
	}
	return append(l, api.Item{From: least, To: most, ID: least}, api.Item{From: least, To: most, ID: most}, api.Item{From: least, To: least + 1, ID: 0}, api.Item{From: most - 1, To: most, ID: 0})
}

// P8.1
func TestNew(t *testing.T) {
	for _, n := range []int{1, 2, 3, 1000, api.MaxItems - 1, api.MaxItems} {
		made(t, n).check()
	}
	for _, n := range []int{0, -1, -2, -api.MaxItems, api.MaxItems + 1, 2 * api.MaxItems, 1 << 32, 1<<32 + 1, most - 1, most, least + 1, least} {
		if tree, e := avl.New(n); tree != nil || e != api.ErrArg {
			t.Errorf("new of %d: %v, %d", n, tree, e)
		}
	}
}

// P8.1, P8.2: as many as may be, and one more.
func TestFull(t *testing.T) {
	for n := 1; n <= 20; n++ {
		b := made(t, n)
		for i := range n {
			b.insert(item(i * 3 % 23))
			b.check()
		}
		if b.tree.Len() != n {
			t.Fatal(n, b.tree.Len())
		}
		for _, x := range []api.Item{item(50), item(-50), {From: least, To: most}} {
			b.refused(api.ErrFull, func() api.Errno { return b.tree.Insert(x) })
		}
		b.refused(api.ErrTwice, func() api.Errno { return b.tree.Insert(item(0)) })
		b.refused(api.ErrArg, func() api.Errno { return b.tree.Insert(api.Item{From: 50, To: 50}) })
		b.remove(item(0))
		b.insert(item(50))
		b.check()
		b.refused(api.ErrFull, func() api.Errno { return b.tree.Insert(item(0)) })
	}
}

// P8.2
func TestInsertRefused(t *testing.T) {
	for _, b := range []*both{made(t, 3), filled(t, 9, numbered(5)...), filled(t, 5, numbered(5)...)} {
		for _, x := range []api.Item{
			{}, {From: 0, To: 0, ID: 1}, {From: 2, To: 2, ID: -2}, {From: 3, To: 2}, {From: 1, To: 0}, {From: 0, To: -1}, {From: -1, To: -1}, {From: -1, To: -2},
			{From: most, To: most}, {From: most, To: least}, {From: least, To: least}, {From: most, To: most - 1}, {From: least + 1, To: least}, {From: 1, To: least}, {From: most, To: 1},
		} {
			b.refused(api.ErrArg, func() api.Errno { return b.tree.Insert(x) })
			b.refused(api.ErrNone, func() api.Errno { return b.tree.Delete(x) })
			if b.tree.Has(x) {
				t.Error("has", x)
			}
		}
		for _, x := range b.want {
			b.refused(api.ErrTwice, func() api.Errno { return b.tree.Insert(x) })
		}
	}
}

// P8.2: an item that differs in a single part is another one.
func TestOtherItems(t *testing.T) {
	b := filled(t, 9, numbered(7)...)
	for _, x := range b.want {
		for _, y := range []api.Item{
			{From: x.From - 1, To: x.To, ID: x.ID}, {From: x.From, To: x.To + 1, ID: x.ID}, {From: x.From, To: x.To - 1, ID: x.ID}, {From: x.From, To: x.To, ID: x.ID + 1},
			{From: x.From, To: x.To, ID: x.ID - 1}, {From: x.From, To: most, ID: x.ID}, {From: least, To: x.To, ID: x.ID}, {From: x.From, To: x.To, ID: most}, {From: x.From, To: x.To, ID: least},
		} {
			if b.tree.Has(y) {
				t.Error("has", y)
			}
			b.refused(api.ErrNone, func() api.Errno { return b.tree.Delete(y) })
		}
	}
}

// P8.2: items that are the same but for one part, put and deleted from each place on.
func TestAlike(t *testing.T) {
	l := alike()
	for first := range l {
		b := made(t, len(l))
		for i := range l {
			x := l[(first+i*7)%len(l)]
			if b.tree.Has(x) {
				t.Fatal("has", x)
			}
			b.insert(x)
			b.check()
			b.refused(api.ErrTwice, func() api.Errno { return b.tree.Insert(x) })
		}
		if b.tree.Len() != len(l) {
			t.Fatal(b.tree.Len(), "of", len(l))
		}
		for i := range l {
			x := l[(first+i*5)%len(l)]
			b.remove(x)
			b.check()
			b.refused(api.ErrNone, func() api.Errno { return b.tree.Delete(x) })
		}
	}
}

// P8.2, P8.3: rising, falling, from both ends, from the middle on.
func TestInsertInRows(t *testing.T) {
	const n = 300
	for name, place := range map[string]func(i int) int{
		"rising":     func(i int) int { return i },
		"falling":    func(i int) int { return n - 1 - i },
		"both ends":  func(i int) int { return i/2 + i%2*(n-1-i/2*2) },
		"the middle": func(i int) int { return n/2 + (i+1)/2*(1-i%2*2) },
		"by leaps":   func(i int) int { return i * 77 % n },
	} {
		b := made(t, n)
		for i := range n {
			b.insert(item(place(i)))
			b.check()
		}
		if b.tree.Len() != n {
			t.Error(name, b.tree.Len())
		}
		for i := range n {
			b.remove(item(place((i + n/3) % n)))
			b.check()
		}
		if b.tree.Len() != 0 || b.tree.Root() != -1 || len(b.tree.Items()) != 0 {
			t.Error(name, b.tree.Len(), b.tree.Root(), b.tree.Items())
		}
	}
}

// P8.2, P8.3: a few items put in each order, then each one of them deleted, and put again.
func TestInsertInEachOrder(t *testing.T) {
	for n := range 8 {
		for _, o := range orders(n) {
			b := made(t, n+1)
			for _, i := range o {
				b.insert(item(i))
			}
			b.check()
			for _, i := range o {
				b.remove(item(i))
				b.check()
				b.insert(item(i))
			}
			b.check()
		}
	}
}

// P8.2, P8.3: all of a few items deleted in each order, of trees put in each order, and put again behind it.
func TestDeleteInEachOrder(t *testing.T) {
	for n := range 6 {
		for _, o := range orders(n) {
			for _, p := range orders(n) {
				b := made(t, n+1)
				for _, i := range o {
					b.insert(item(i))
				}
				for _, i := range p {
					b.remove(item(i))
					b.check()
				}
				for _, i := range p {
					b.insert(item(i))
				}
				b.check()
			}
		}
	}
}

// P8.2, P8.3: all of the items of trees of ten and eleven, in each order of six of them.
func TestDeleteOfMore(t *testing.T) {
	for _, n := range []int{10, 11} {
		for _, o := range orders(6) {
			b := filled(t, n, numbered(n)...)
			for _, i := range o {
				b.remove(item(i + i/2))
				b.check()
			}
		}
	}
}

// with tells an item of a node for which f holds.
func (b *both) with(f func(k api.Knot) bool) api.Item {
	b.t.Helper()
	for _, k := range b.shape() {
		if f(k) {
			return k.Item
		}
	}
	b.t.Fatal("no such node")
	return api.Item{}
}

// P8.2: a leaf, a node with one side, one with two, the root.
func TestDeleteOfKinds(t *testing.T) {
	for name, f := range map[string]func(k api.Knot) bool{
		"leaf":      func(k api.Knot) bool { return k.Left == -1 && k.Right == -1 },
		"left side": func(k api.Knot) bool { return k.Left != -1 && k.Right == -1 },
		"right":     func(k api.Knot) bool { return k.Left == -1 && k.Right != -1 },
		"two sides": func(k api.Knot) bool { return k.Left != -1 && k.Right != -1 && k.Height == 3 },
		"root":      func(k api.Knot) bool { return k.Height == 4 },
	} {
		l := []api.Item{item(9), item(3), item(14), item(1), item(6), item(11), item(17), item(0), item(7)}
		b := filled(t, 9, l...)
		x := b.with(f)
		b.remove(x)
		b.check()
		if b.tree.Has(x) || b.tree.Len() != 8 {
			t.Error(name, x, b.tree.Len())
		}
		b.refused(api.ErrNone, func() api.Errno { return b.tree.Delete(x) })
		b.insert(x)
		b.check()
	}
}

// P8.2, P8.3: the root is deleted till there is none.
func TestDeleteOfRoots(t *testing.T) {
	for n := range 70 {
		b := filled(t, 70, numbered(n)...)
		for b.tree.Len() > 0 {
			k, ok := b.tree.Node(b.tree.Root())
			if !ok {
				t.Fatal("no root of", b.tree.Len())
			}
			b.remove(k.Item)
			b.check()
		}
		b.refused(api.ErrNone, func() api.Errno { return b.tree.Delete(item(0)) })
	}
}

// P8.2, P8.3: the last one of them, and one more put behind it.
func TestLastItem(t *testing.T) {
	b := made(t, 1)
	for i := range 5 {
		b.refused(api.ErrNone, func() api.Errno { return b.tree.Delete(item(i)) })
		b.insert(item(i))
		b.check()
		if k, ok := b.tree.Node(b.tree.Root()); !ok || k != (api.Knot{Item: item(i), Left: -1, Right: -1, Height: 1, Top: item(i).To}) {
			t.Error(k, ok)
		}
		b.refused(api.ErrFull, func() api.Errno { return b.tree.Insert(item(i + 1)) })
		b.remove(item(i))
		b.check()
	}
}

// P8.2, P8.3: puts and deletes by a rule that goes to and fro, of items of which many end behind greater ones.
func TestToAndFro(t *testing.T) {
	for _, size := range []uint64{8, 40, 400} {
		b := made(t, int(size)/2+1)
		n := uint64(2026)
		for range 6000 {
			n = n*6364136223846793005 + 1442695040888963407
			k := n >> 33
			x := api.Item{From: int(k % size), To: int(k%size) + 1 + int(k>>8%7*(k>>12%9)), ID: int(k >> 20 % 3)}
			if n>>20%5 < 3 {
				b.insert(x)
			} else if len(b.want) > 0 {
				b.remove(b.want[int(k>>5)%len(b.want)])
			}
			if size < 100 {
				b.check()
			}
		}
		b.check()
	}
}

// P8.2: what Items tells is in memory of its own.
func TestItemsMemory(t *testing.T) {
	b := filled(t, 20, numbered(9)...)
	first := b.tree.Items()
	second := b.tree.Items()
	first = first[:cap(first)]
	for i := range first {
		first[i] = api.Item{From: -7, To: -7, ID: -7}
	}
	if !slices.Equal(second, b.want) {
		t.Error(second)
	}
	b.check()
	b.insert(item(12))
	b.remove(item(4))
	b.check()
	if !slices.Equal(second, numbered(9)) {
		t.Error("told ahead of the calls:", second)
	}
	k, _ := b.tree.Node(b.tree.Root())
	k.Left, k.Right, k.Item = 99, 99, api.Item{}
	b.check()
}

// P8.2, P8.3: two trees share nothing.
func TestTwoTrees(t *testing.T) {
	a, b := made(t, 30), made(t, 30)
	for i := range 20 {
		a.insert(item(i))
		b.insert(item(40 - i))
		b.check()
		if i%3 == 0 {
			a.remove(item(i))
		}
		a.check()
		b.check()
	}
	for i := range 20 {
		a.remove(item(i))
		a.check()
		b.check()
	}
}

// P8.2, P8.3: a copy of a tree is the same tree.
func TestCopy(t *testing.T) {
	b := filled(t, 30, numbered(6)...)
	u := *b.tree
	other := &both{t: t, tree: &u, most: 30, want: slices.Clone(b.want)}
	for i := 6; i < 20; i++ {
		other.insert(item(i))
		other.remove(item(i - 6))
		b.want = slices.Clone(other.want)
		b.check()
		other.check()
	}
}

// P8.2, P8.3: a tree that is not there, and one that was not made, are asked in vain.
func TestNoTree(t *testing.T) {
	var zero avl.Tree
	places := []int{-1, 0, 1, 5, least, most}
	for name, tree := range map[string]*avl.Tree{"not there": nil, "not made": {}, "a zero one": &zero} {
		for range 2 { // also behind the calls
			for _, x := range []api.Item{{From: 1, To: 2}, {}, {From: 2, To: 1}, {From: least, To: most, ID: least}} {
				if e := tree.Insert(x); e != api.ErrNil {
					t.Error(name, "insert", x, e)
				}
				if e := tree.Delete(x); e != api.ErrNil {
					t.Error(name, "delete", x, e)
				}
				if tree.Has(x) {
					t.Error(name, "has", x)
				}
			}
			if n, root, l := tree.Len(), tree.Root(), tree.Items(); n != 0 || root != -1 || len(l) != 0 {
				t.Error(name, n, root, l)
			}
			for _, place := range places {
				if k, ok := tree.Node(place); ok || k != (api.Knot{}) {
					t.Error(name, "node at", place, k)
				}
			}
		}
	}
}

// P8.3: the places of nodes that were deleted are no nodes.
func TestPlacesOfDeleted(t *testing.T) {
	b := filled(t, 64, numbered(40)...)
	for i := range 40 {
		b.remove(item(i * 7 % 40))
		b.check()
	}
	for i := range 40 {
		b.insert(item(i * 3 % 40))
		b.check()
	}
}

// The chapter's examples.
func TestExamples(t *testing.T) {
	b := filled(t, 3, api.Item{From: 1, To: 2}, api.Item{From: 2, To: 9}, api.Item{From: 3, To: 4})
	k, ok := b.tree.Node(b.tree.Root())
	if !ok || k.Item != (api.Item{From: 2, To: 9}) || k.Height != 2 || k.Top != 9 {
		t.Error(k, ok)
	}
	b.remove(api.Item{From: 2, To: 9})
	k, ok = b.tree.Node(b.tree.Root())
	if !ok || k.Item != (api.Item{From: 3, To: 4}) && k.Item != (api.Item{From: 1, To: 2}) || k.Height != 2 || k.Top != 4 {
		t.Error(k, ok)
	}
	b.check()
}

// P8.1, P8.2: as many items as may be at all, rising, and one more.
func TestMaxItems(t *testing.T) {
	b := made(t, api.MaxItems)
	for i := range api.MaxItems {
		b.want = append(b.want, item(i))
		if e := b.tree.Insert(item(i)); e != api.OK {
			t.Fatal(i, e)
		}
	}
	b.check()
	if e := b.tree.Insert(item(api.MaxItems)); e != api.ErrFull {
		t.Error(e)
	}
	if e := b.tree.Insert(item(7)); e != api.ErrTwice {
		t.Error(e)
	}
	if e := b.tree.Insert(api.Item{From: 7, To: 7}); e != api.ErrArg {
		t.Error(e)
	}
	b.remove(item(0))
	b.insert(item(api.MaxItems))
	b.check()
	for i := 2; i < api.MaxItems; i += 2 {
		if e := b.tree.Delete(item(i)); e != api.OK {
			t.Fatal(i, e)
		}
	}
	b.want = slices.DeleteFunc(b.want, func(x api.Item) bool { return x.From%2 == 0 && x.From != api.MaxItems })
	b.check()
}

// thin are, level by level, the items of a balanced tree that has the fewest items of its height, from an item on.
// Putting them so turns no node.
func thin(height int) [][]int {
	count := []int{0, 1}
	for h := 2; h <= height; h++ {
		count = append(count, count[h-1]+count[h-2]+1)
	}
	levels := make([][]int, height)
	var down func(level, height, from int)
	down = func(level, height, from int) {
		if height < 1 {
			return
		}
		own := from + count[height-1]
		levels[level] = append(levels[level], own)
		down(level+1, height-1, from)
		down(level+1, height-2, own+1)
	}
	down(0, height, 1)
	return levels
}

// What follows: the greatest height that a tree may have, and both calls at its deepest nodes.
func TestDeepest(t *testing.T) {
	const height = 28
	b := made(t, api.MaxItems)
	count := 0
	for _, level := range thin(height) {
		for _, i := range level {
			count++
			if e := b.tree.Insert(item(i)); e != api.OK {
				t.Fatal(i, e)
			}
		}
	}
	for i := 1; i <= count; i++ {
		b.want = append(b.want, item(i))
	}
	b.check()
	if k, _ := b.tree.Node(b.tree.Root()); k.Height != height {
		t.Fatal("height", k.Height, "of", count)
	}
	deep := b.want[0]
	b.insert(item(-1))
	b.insert(item(0))
	b.remove(deep)
	b.check()
	// The greatest items are the ones that are the least deep: without them nodes turn at each level.
	for range 5 {
		b.remove(b.want[len(b.want)-1])
		b.remove(b.want[0])
	}
	b.check()
}
