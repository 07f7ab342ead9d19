package printer_test

import (
	"slices"
	"strings"
	"testing"
	"unsafe"

	"corrody/api"
	"corrody/parser"
	"corrody/printer"
)

// read is the tree of a text that must be a formula.
func read(t *testing.T, s string) api.Tree {
	t.Helper()
	tree, at, e := parser.Parse(s)
	if e != api.OK {
		t.Fatalf("Parse(%.80q) = %d, %d", s, at, e)
	}
	return tree
}

// hold holds what Text and May tell of a tree against what is wanted, and tells the text; the tree is not changed.
func hold(t *testing.T, tree api.Tree) string {
	t.Helper()
	before := slices.Clone(tree)
	want, may := wanted(tree)
	wantE := api.OK
	if !may {
		wantE = api.ErrForm
	}
	if got := printer.May(tree); got != may {
		t.Fatalf("May(%v) = %v", tree, got)
	}
	got, e := printer.Text(tree)
	if got != want || e != wantE {
		t.Fatalf("Text(%v) = %q, %d, want %q, %d", tree, got, e, want, wantE)
	}
	if !slices.Equal(tree, before) {
		t.Fatalf("%v was changed to %v", before, tree)
	}
	return got
}

// told holds what Text tells of the tree of a text against what is written by hand; what is told is read as that tree, and told again.
func told(t *testing.T, s, hand string) {
	t.Helper()
	tree := read(t, s)
	if got := hold(t, tree); got != hand {
		t.Fatalf("Text of %q = %q, want %q", s, got, hand)
	}
	back := read(t, hand)
	if !printer.Same(tree, back) || !printer.Same(back, tree) || !alike(tree, back) {
		t.Fatalf("%q and %q are not the same: %v, %v", s, hand, tree, back)
	}
	if again, e := printer.Text(back); again != hand || e != api.OK {
		t.Fatalf("Text of %q = %q, %d", hand, again, e)
	}
}

// refused holds that a tree is that of no text that Text tells.
func refused(t *testing.T, what string, tree api.Tree) {
	t.Helper()
	before := slices.Clone(tree)
	if s, e := printer.Text(tree); s != "" || e != api.ErrForm {
		t.Errorf("Text of %s = %q, %d", what, s, e)
	}
	if printer.May(tree) {
		t.Errorf("May of %s", what)
	}
	if _, may := wanted(tree); may {
		t.Errorf("%s is wanted", what)
	}
	if !slices.Equal(tree, before) {
		t.Errorf("%s was changed", what)
	}
}

// times is a text, so many times.
func times(n int, s string) string { return strings.Repeat(s, n) }

// formulas are texts of all kinds, as Text tells them.
func formulas() []string {
	return []string{
		"a", "0", "2.5", "true", "false", "a + 2 * b", "not a = b", "a - (b - c)", "-a * -b / --c", "not not a and b or not c",
		"if(has(pay), round(pay / 12, 2), orelse(pay, 0.5))", "min(max(a, 1), abs(-b)) <= 9",
		"lag(a, 1) + least(b, 30) - most(c, 365) * 2", "any(p, 0) or every(q, 3660) and not (a < b or p)",
		"if(a = b, if(p, 1, 2), if(q or p, 3, 4))", "orelse(a, orelse(b, orelse(c, 0)))", "round(a, 0) = round(b, 9)",
	}
}

// TestExamples are the chapter's examples.
func TestExamples(t *testing.T) { // P16.1
	told(t, "(a)+((b*2))", "a + b * 2")
	told(t, "a-(b-c)", "a - (b - c)")
	told(t, "not (p and q)", "not (p and q)")
	told(t, "-(a*b)", "-(a * b)")
	for _, s := range formulas() {
		told(t, s, s)
	}
}

// TestAtoms: numbers, names and truths are told as they are read.
func TestAtoms(t *testing.T) { // P16.1
	for _, s := range []string{
		"a", "z", "a0", "abcdefghijkl", "a12345678901", "nota", "iff", "tru", "minmax", "true", "false",
		"0", "1", "10", "100", "1000000000", "9223372036854775807", "0.5", "0.1", "0.000000001", "2.5", "10.01", "0.123456789",
		"9223372036.854775807", "922337203685477580.7", "1000.001",
	} {
		told(t, s, s)
		told(t, "  "+s+" ", s)
		told(t, "("+s+")", s)
		told(t, times(16, "(")+s+times(16, ")"), s)
		told(t, "-("+s+")", "-"+s)
		told(t, "not("+s+")", "not "+s)
	}
}

// TestOverEachOther: an op of each level over one of each level, on each side; parentheses stand just where that would not be read there else. Each text is given with all parentheses that may be, and told without those that are not wanted.
func TestOverEachOther(t *testing.T) { // P16.1
	for _, x := range [][2]string{
		{"(a or b) or c", "a or b or c"}, {"a or (b or c)", "a or (b or c)"},
		{"(a and b) or c", "a and b or c"}, {"a or (b and c)", "a or b and c"},
		{"(not a) or b", "not a or b"}, {"a or (not b)", "a or not b"},
		{"(a = b) or c", "a = b or c"}, {"a or (b = c)", "a or b = c"},
		{"(a + b) or c", "a + b or c"}, {"a or (b + c)", "a or b + c"},
		{"(a * b) or c", "a * b or c"}, {"a or (b * c)", "a or b * c"},
		{"(-a) or b", "-a or b"}, {"a or (-b)", "a or -b"},

		{"(a or b) and c", "(a or b) and c"}, {"a and (b or c)", "a and (b or c)"},
		{"(a and b) and c", "a and b and c"}, {"a and (b and c)", "a and (b and c)"},
		{"(not a) and b", "not a and b"}, {"a and (not b)", "a and not b"},
		{"(a = b) and c", "a = b and c"}, {"a and (b = c)", "a and b = c"},
		{"(a + b) and c", "a + b and c"}, {"a and (b + c)", "a and b + c"},
		{"(a * b) and c", "a * b and c"}, {"a and (b * c)", "a and b * c"},
		{"(-a) and b", "-a and b"}, {"a and (-b)", "a and -b"},

		{"not (a or b)", "not (a or b)"}, {"not (a and b)", "not (a and b)"}, {"not (not a)", "not not a"}, {"not (a = b)", "not a = b"},
		{"not (a + b)", "not a + b"}, {"not (a * b)", "not a * b"}, {"not (-a)", "not -a"}, {"not (abs(a))", "not abs(a)"},

		{"(a or b) = c", "(a or b) = c"}, {"a = (b or c)", "a = (b or c)"},
		{"(a and b) = c", "(a and b) = c"}, {"a = (b and c)", "a = (b and c)"},
		{"(not a) = b", "(not a) = b"}, {"a = (not b)", "a = (not b)"},
		{"(a = b) = c", "(a = b) = c"}, {"a = (b = c)", "a = (b = c)"},
		{"(a + b) = c", "a + b = c"}, {"a = (b + c)", "a = b + c"},
		{"(a * b) = c", "a * b = c"}, {"a = (b * c)", "a = b * c"},
		{"(-a) = b", "-a = b"}, {"a = (-b)", "a = -b"},

		{"(a or b) - c", "(a or b) - c"}, {"a - (b or c)", "a - (b or c)"},
		{"(a and b) - c", "(a and b) - c"}, {"a - (b and c)", "a - (b and c)"},
		{"(not a) - b", "(not a) - b"}, {"a - (not b)", "a - (not b)"},
		{"(a = b) - c", "(a = b) - c"}, {"a - (b = c)", "a - (b = c)"},
		{"(a - b) - c", "a - b - c"}, {"a - (b - c)", "a - (b - c)"},
		{"(a * b) - c", "a * b - c"}, {"a - (b * c)", "a - b * c"},
		{"(-a) - b", "-a - b"}, {"a - (-b)", "a - -b"},

		{"(a or b) / c", "(a or b) / c"}, {"a / (b or c)", "a / (b or c)"},
		{"(a and b) / c", "(a and b) / c"}, {"a / (b and c)", "a / (b and c)"},
		{"(not a) / b", "(not a) / b"}, {"a / (not b)", "a / (not b)"},
		{"(a = b) / c", "(a = b) / c"}, {"a / (b = c)", "a / (b = c)"},
		{"(a - b) / c", "(a - b) / c"}, {"a / (b - c)", "a / (b - c)"},
		{"(a / b) / c", "a / b / c"}, {"a / (b / c)", "a / (b / c)"},
		{"(-a) / b", "-a / b"}, {"a / (-b)", "a / -b"},

		{"-(a or b)", "-(a or b)"}, {"-(a and b)", "-(a and b)"}, {"-(not a)", "-(not a)"}, {"-(a = b)", "-(a = b)"},
		{"-(a - b)", "-(a - b)"}, {"-(a * b)", "-(a * b)"}, {"-(-a)", "--a"}, {"-(1)", "-1"}, {"-(abs(a))", "-abs(a)"},
	} {
		told(t, x[0], x[1])
		told(t, x[1], x[1])
		told(t, "( "+x[0]+" )", x[1])
		told(t, "abs(("+x[0]+"))", "abs("+x[1]+")")
	}
}

// TestOneLevel: each op over each other one of its level.
func TestOneLevel(t *testing.T) { // P16.1
	for _, level := range [][]string{{"or"}, {"and"}, {"+", "-"}, {"*", "/"}} {
		for _, x := range level {
			for _, y := range level {
				told(t, "(a "+x+" b) "+y+" c", "a "+x+" b "+y+" c")
				told(t, "a "+x+" (b "+y+" c)", "a "+x+" (b "+y+" c)")
			}
		}
	}
	comparisons := []string{"=", "<>", "<", "<=", ">", ">="}
	for _, x := range comparisons {
		told(t, "a"+x+"b", "a "+x+" b")
		told(t, "not(a"+x+"b)", "not a "+x+" b")
		told(t, "(not a)"+x+"(not b)", "(not a) "+x+" (not b)")
		for _, y := range comparisons {
			told(t, "(a"+x+"b)"+y+"c", "(a "+x+" b) "+y+" c")
			told(t, "a"+x+"(b"+y+"c)", "a "+x+" (b "+y+" c)")
			told(t, "(a"+x+"b)"+y+"(c"+x+"d)", "(a "+x+" b) "+y+" (c "+x+" d)")
		}
	}
}

// TestCalls: each call with all that it has; between its parentheses an op of whatever level wants none, and it wants none below an op.
func TestCalls(t *testing.T) { // P16.1
	for _, x := range [][2]string{
		{"if(p,a,b)", "if(p, a, b)"}, {"min(a,b)", "min(a, b)"}, {"max(a,b)", "max(a, b)"}, {"abs(a)", "abs(a)"},
		{"round(a,0)", "round(a, 0)"}, {"round(a,9)", "round(a, 9)"}, {"has(a)", "has(a)"}, {"orelse(a,b)", "orelse(a, b)"},
		{"lag(a,0)", "lag(a, 0)"}, {"lag(a,3660)", "lag(a, 3660)"}, {"least(b,1)", "least(b, 1)"}, {"most(c,10)", "most(c, 10)"},
		{"any(p,365)", "any(p, 365)"}, {"every(abcdefghijkl,1000)", "every(abcdefghijkl, 1000)"},
	} {
		told(t, x[0], x[1])
		told(t, "(("+x[0]+"))", x[1])
		told(t, "-("+x[0]+")", "-"+x[1])
		told(t, "not("+x[0]+")", "not "+x[1])
		for _, op := range []string{"or", "and", "=", "<>", "<", "<=", ">", ">=", "+", "-", "*", "/"} {
			told(t, "("+x[0]+")"+op+"("+x[0]+")", x[1]+" "+op+" "+x[1])
		}
		told(t, "abs(("+x[0]+"))", "abs("+x[1]+")")
	}
	for _, s := range []string{"p or q", "p and q", "not p", "a = b", "a < b", "a + b", "a - b", "a * b", "a / b", "-a", "a", "1", "true", "abs(a)"} {
		in := "(" + s + ")"
		told(t, "if("+in+","+in+","+in+")", "if("+s+", "+s+", "+s+")")
		told(t, "min("+in+","+in+")", "min("+s+", "+s+")")
		told(t, "max("+in+","+in+")", "max("+s+", "+s+")")
		told(t, "abs("+in+")", "abs("+s+")")
		told(t, "round("+in+",3)", "round("+s+", 3)")
		told(t, "orelse(a,"+in+")", "orelse(a, "+s+")")
	}
}

// TestParentheses: around an atom, a call, the whole, and several around one thing are not told again.
func TestParentheses(t *testing.T) { // P16.1
	told(t, "(((a)))", "a")
	told(t, "((a)) - (((b)) - ((c)))", "a - (b - c)")
	told(t, "((((a - b))) - c)", "a - b - c")
	told(t, "((abs((a))))", "abs(a)")
	told(t, "(if((p), ((a)), (((b)))))", "if(p, a, b)")
	told(t, "((not (((p and q)))))", "not (p and q)")
	told(t, "-((-((1))))", "--1")
	told(t, "((a) = (b)) = ((true))", "(a = b) = true")
	told(t, "(a+((b*(c/(d)))))", "a + b * (c / d)")
	told(t, "a and(b or c)and d", "a and (b or c) and d")
	told(t, "((a or b)and(c or d))or(not(e)and f)", "(a or b) and (c or d) or not e and f")
}

// TestAllShapes: all trees of up to four ops over each other, and a call among them, told as what is left when all parentheses are taken away that go.
func TestAllShapes(t *testing.T) { // P16.1
	held := 0
	check := func(tree api.Tree) {
		s := hold(t, tree)
		if want := bare(tree, full(tree)); s != want {
			t.Fatalf("Text(%v) = %q, want %q", tree, s, want)
		}
		if back := read(t, s); !printer.Same(tree, back) {
			t.Fatalf("%q is read as %v, not as %v", s, back, tree)
		}
		held++
	}
	all := slices.DeleteFunc(allOps(), func(op uint8) bool { f, _ := opOf(op); return f.kind == 'a' || f.kids == 0 })
	each(2, all, check)
	each(3, []uint8{api.OpOr, api.OpAnd, api.OpNot, api.OpEq, api.OpLt, api.OpAdd, api.OpSub, api.OpMul, api.OpDiv, api.OpNeg, api.OpRound, api.OpMin}, check)
	each(4, []uint8{api.OpOr, api.OpNot, api.OpGe, api.OpSub, api.OpMul, api.OpNeg}, check)
	if held != 720+6588+10320 {
		t.Errorf("%d trees", held)
	}
}

// each tells all trees of so many ops over fields, each op one of a list.
func each(ops int, of []uint8, tell func(api.Tree)) {
	m := mixer{1}
	var grow func(tree api.Tree, loose []int, ops int)
	grow = func(tree api.Tree, loose []int, left int) {
		if left == 0 && len(loose) == 1 {
			tell(slices.Clone(tree))
			return
		}
		if len(loose) < 3*ops && len(tree) < 3*ops+1 && left > 0 {
			grow(append(slices.Clone(tree), m.filled(api.OpField)), append(slices.Clone(loose), len(tree)), left)
		}
		for _, op := range of {
			f, _ := opOf(op)
			if left == 0 || f.kids > len(loose) {
				continue
			}
			n := m.filled(op)
			from := len(loose) - f.kids
			copy(n.Kids[:], loose[from:])
			grow(append(slices.Clone(tree), n), append(slices.Clone(loose[:from]), len(tree)), left-1)
		}
	}
	grow(nil, nil, ops)
}

// TestMixed: trees of all ops, in any order, of few nodes and of many.
func TestMixed(t *testing.T) { // P16.1
	m := mixer{20}
	fine := 0
	for i := range 40000 {
		tree := m.grown(1+m.below(1+i%70), allOps())
		if s := hold(t, tree); s != "" {
			fine++
			if back := read(t, s); !printer.Same(tree, back) || !alike(tree, back) {
				t.Fatalf("%q is read as %v, not as %v", s, back, tree)
			}
		}
	}
	if fine < 15000 || fine > 39000 {
		t.Errorf("%d trees may be", fine)
	}
}

// chain is the tree of so many fields, one behind the other, with an op between.
func chain(op uint8, fields int, name string) api.Tree {
	var tree api.Tree
	for i := range fields {
		tree = append(tree, atom(name))
		if i > 0 {
			tree = append(tree, over(op, len(tree)-2, len(tree)-1))
		}
	}
	return tree
}

// atom is a field's node.
func atom(name string) api.Node {
	return api.Node{Op: api.OpField, Name: name, Kids: [3]int{-1, -1, -1}}
}

// number is a number's node.
func number(c int64, s int) api.Node {
	return api.Node{Op: api.OpNumber, N: api.Dec{C: c, S: s}, Kids: [3]int{-1, -1, -1}}
}

// over is an op's node over others.
func over(op uint8, kids ...int) api.Node {
	n := api.Node{Op: op, Kids: [3]int{-1, -1, -1}}
	copy(n.Kids[:], kids)
	return n
}

// call is a call's node of a field, a whole number, and others.
func call(op uint8, name string, k int, kids ...int) api.Node {
	n := over(op, kids...)
	n.Name, n.K = name, k
	return n
}

// TestNodes: trees of 1, 99, 100 and 101 nodes, and of far more.
func TestNodes(t *testing.T) { // P16.1
	for _, x := range []struct {
		tree api.Tree
		text string
	}{
		{chain(api.OpOr, 1, "a"), "a"},
		{chain(api.OpAdd, 50, "a"), "a" + times(49, " + a")},
		{append(chain(api.OpAdd, 50, "a"), over(api.OpNot, 98)), "not a" + times(49, " + a")},
		{append(chain(api.OpAdd, 50, "a"), over(api.OpNeg, 98)), "-(a" + times(49, " + a") + ")"},
	} {
		if got := hold(t, x.tree); got != x.text {
			t.Errorf("Text of %d nodes = %q, want %q", len(x.tree), got, x.text)
		}
		told(t, x.text, x.text)
	}
	refused(t, "101 nodes", chain(api.OpAdd, 51, "a"))
	refused(t, "102 nodes", append(chain(api.OpAdd, 51, "a"), over(api.OpNeg, 100)))
	refused(t, "a hundred thousand nodes", chain(api.OpAdd, 50000, "a"))
}

// TestBytes: trees whose text has 400 and 401 bytes, each read of a text with fewer blanks.
func TestBytes(t *testing.T) { // P16.1
	const long = "abcdefghijkl"
	base := long + times(26, " - "+long) // of 402 bytes
	for _, x := range []struct{ was, fits, over string }{
		{long, "abcdefghij", "abcdefghijk"},
		{long, "-abcdefghi", "-abcdefghij"},
		{long, "lag(a, 10)", "lag(ab, 10)"},
		{long, "has(abcde)", "has(abcdef)"},
		{long, "(ab or cd)", "(ab or cde)"},
		{long, "12345678.1", "12345678.12"},
		{long + " - " + long, "abs(abcde - " + long + ")", "abs(abcdef - " + long + ")"},
	} {
		for i, part := range []string{x.fits, x.over} {
			text := strings.Replace(base, x.was, part, 1)
			tight := strings.ReplaceAll(text, " - ", "-")
			if len(text) != 400+i {
				t.Fatalf("%q has %d bytes", text, len(text))
			}
			if i == 0 {
				told(t, tight, text)
			} else {
				refused(t, text, read(t, tight))
			}
		}
	}
	told(t, times(199, " ")+"a-b"+times(198, " "), "a - b")
	refused(t, "a text of far more", chain(api.OpAnd, 50, "abcdefghijkl"))
}

// nested is a tree of a field with so many ops of one kind over it.
func nested(tree api.Tree, op uint8, n int) api.Tree {
	for range n {
		tree = append(tree, over(op, len(tree)-1))
	}
	return tree
}

// TestLevels: trees whose text has 16 and 17 levels open at one place.
func TestLevels(t *testing.T) { // P16.1
	for _, op := range []uint8{api.OpNot, api.OpNeg, api.OpAbs} {
		words := map[uint8][2]string{api.OpNot: {"not ", ""}, api.OpNeg: {"-", ""}, api.OpAbs: {"abs(", ")"}}[op]
		text := times(16, words[0]) + "a" + times(16, words[1])
		told(t, text, text)
		if got := hold(t, nested(api.Tree{atom("a")}, op, 16)); got != text {
			t.Errorf("Text of 16 levels = %q", got)
		}
		refused(t, "17 levels of "+words[0], nested(api.Tree{atom("a")}, op, 17))
		refused(t, "40 levels of "+words[0], nested(api.Tree{atom("a")}, op, 40))
		// An atom that opens one is one too many below 16, and is not below 15.
		refused(t, "a call below 16 of "+words[0], nested(api.Tree{call(api.OpLag, "a", 1)}, op, 16))
		if got := hold(t, nested(api.Tree{call(api.OpLag, "a", 1)}, op, 15)); got != times(15, words[0])+"lag(a, 1)"+times(15, words[1]) {
			t.Errorf("Text of a call below 15 = %q", got)
		}
	}
	// Parentheses are levels: a - (a - (a - ..)) has one below each op but the last one.
	for _, op := range []uint8{api.OpOr, api.OpAnd, api.OpEq, api.OpSub, api.OpDiv} {
		if got := hold(t, righted(op, 17)); strings.Count(got, "(") != 16 {
			t.Errorf("Text of 16 parentheses = %q", got)
		}
		refused(t, "17 parentheses", righted(op, 18))
	}
	// Levels that are not open at one place don't add up.
	wide := "-(a + b)" + times(18, " - -(a + b)")
	told(t, "("+wide+")", wide)
	// A tree of a text with 16 levels, of which its own text wants none; and one that wants them all.
	told(t, times(16, "(")+"a - b"+times(16, ")"), "a - b")
	told(t, times(8, "(-")+"a"+times(8, ")"), times(8, "-")+"a")
	told(t, times(8, "-(")+"a - b"+times(8, ")"), times(8, "-")[:7]+"-(a - b)")
	told(t, times(16, "a - (")+"b"+times(16, ")"), times(15, "a - (")+"a - b"+times(15, ")"))
	told(t, times(15, "a - (")+"-b"+times(15, ")"), times(14, "a - (")+"a - -b"+times(14, ")"))
}

// righted is a tree of so many ops, each one the right side of the one above.
func righted(op uint8, n int) api.Tree {
	var tree api.Tree
	for range n + 1 {
		tree = append(tree, atom("a"))
	}
	for i := range n {
		tree = append(tree, over(op, n-1-i, len(tree)-1))
	}
	return tree
}

// TestNoTree: the tree that is not there and the empty one; ops that are none.
func TestNoTree(t *testing.T) { // P16.1
	refused(t, "nothing", nil)
	refused(t, "no node", api.Tree{})
	refused(t, "a node of noughts", api.Tree{{}})
	for op := range 256 {
		if _, is := opOf(uint8(op)); is {
			continue
		}
		refused(t, "no op", api.Tree{over(uint8(op))})
		refused(t, "no op, with a name", api.Tree{call(uint8(op), "a", 0)})
		refused(t, "no op over a field", api.Tree{atom("a"), over(uint8(op), 0)})
		refused(t, "no op over two", api.Tree{atom("a"), atom("b"), over(uint8(op), 0, 1)})
		refused(t, "no op below not", api.Tree{over(uint8(op)), over(api.OpNot, 0)})
	}
}

// TestKids: a Kid that is missing, one too many, at or behind its node, no place at all, another one's too, out of order; and a node that is below none.
func TestKids(t *testing.T) { // P16.1
	a, b, c := atom("a"), atom("b"), atom("c")
	strange := []int{-1 << 63, -1 << 31, -3, -2, 3, 4, 100, 1 << 31, 1<<63 - 1}
	for _, f := range opForms {
		for kids := range 4 {
			if kids == f.kids {
				continue
			}
			n := call(f.op, map[bool]string{true: "d"}[f.name], 0, []int{0, 1, 2}[:kids]...)
			refused(t, f.word+": too many or too few", append(slices.Clone(api.Tree{a, b, c})[:kids], n))
			refused(t, f.word+": too many or too few, over all", api.Tree{a, b, c, n})
		}
		tree := append(slices.Clone(api.Tree{a, b, c})[:f.kids], call(f.op, map[bool]string{true: "d"}[f.name], 0, []int{0, 1, 2}[:f.kids]...))
		if hold(t, tree) == "" {
			t.Fatalf("%v may be", tree)
		}
		for i := range 3 {
			for _, kid := range append([]int{-1, 0, 1, 2, f.kids}, strange...) {
				other := slices.Clone(tree)
				other[f.kids].Kids[i] = kid
				if kid != tree[f.kids].Kids[i] {
					refused(t, f.word+": another Kid", other)
				}
			}
		}
	}
	refused(t, "a ring", api.Tree{over(api.OpNot, 0)})
	refused(t, "a ring of two", api.Tree{over(api.OpNot, 1), over(api.OpNot, 0)})
	refused(t, "one that stands behind", api.Tree{a, over(api.OpNot, 2), over(api.OpNot, 1)})
	refused(t, "another one's too", api.Tree{a, over(api.OpNeg, 0), over(api.OpAdd, 0, 1)})
	refused(t, "one twice", api.Tree{a, over(api.OpAdd, 0, 0)})
	refused(t, "sides that are changed round", api.Tree{a, b, over(api.OpAdd, 1, 0)})
	refused(t, "one out of its order", api.Tree{a, b, over(api.OpNeg, 0), over(api.OpAdd, 2, 1)})
	refused(t, "one out of its order, ahead", api.Tree{b, a, over(api.OpNeg, 1), over(api.OpAdd, 2, 0)})
	refused(t, "one below none, first", api.Tree{a, b})
	refused(t, "one below none, ahead of a tree", api.Tree{a, b, over(api.OpNot, 1)})
	refused(t, "one below none, amidst", api.Tree{a, b, over(api.OpNot, 0)})
	refused(t, "the whole ahead of another one", api.Tree{a, over(api.OpNot, 0), b})
	refused(t, "nodes of others below", api.Tree{a, b, c, over(api.OpAdd, 0, 1), over(api.OpAdd, 3, 2)})
	refused(t, "lists with no end, were each text written", shared(100))
	refused(t, "lists with no end, of three", shared(3))
}

// shared is a tree each node of which is below the next one twice: its text would have twice as much for each.
func shared(nodes int) api.Tree {
	tree := api.Tree{atom("a")}
	for len(tree) < nodes {
		tree = append(tree, over(api.OpAdd, len(tree)-1, len(tree)-1))
	}
	return tree
}

// TestStray: a Name, N or K where the op has none, or one that could not be read there.
func TestStray(t *testing.T) { // P16.1
	kept := []string{"true", "false", "and", "or", "not", "if", "min", "max", "abs", "round", "has", "orelse", "lag", "least", "most", "any", "every"}
	names := append(kept, "", "abcdefghijklm", times(1<<20, "a"), "A", "aB", "1", "1a", "0", "_", "a_", "é", "aé", "\xff", "a\x00", " ", "a ", " a", "a b", "(a)", "a)", "a, 1", "a + b", "-a", "a-", "lag(a, 1)", "a.", ",")
	decs := []api.Dec{{C: -1}, {C: -1 << 63}, {C: -25, S: 1}, {C: 0, S: 1}, {C: 10, S: 1}, {C: 250, S: 2}, {C: 1, S: 10}, {C: 1, S: -1}, {S: -1}, {S: 10}, {C: 1, S: 1 << 62}, {C: 1, S: -1 << 63}, {C: 100, S: 9}}
	for _, f := range opForms {
		tree := append(api.Tree{atom("a"), atom("b"), atom("c")}[:f.kids], call(f.op, map[bool]string{true: "d"}[f.name], 0, []int{0, 1, 2}[:f.kids]...))
		with := func(change func(n *api.Node)) api.Tree {
			other := slices.Clone(tree)
			change(&other[f.kids])
			return other
		}
		for _, name := range names {
			other := with(func(n *api.Node) { n.Name = name })
			if f.name || name != "" {
				refused(t, f.word+": a name", other)
			}
		}
		if !f.name {
			refused(t, f.word+": the name d", with(func(n *api.Node) { n.Name = "d" }))
		}
		for _, x := range decs {
			refused(t, f.word+": a number", with(func(n *api.Node) { n.N = x }))
		}
		for _, x := range []api.Dec{{C: 1}, {C: 25, S: 1}} {
			other := with(func(n *api.Node) { n.N = x })
			if f.num {
				hold(t, other)
			} else {
				refused(t, f.word+": a number that may be elsewhere", other)
			}
		}
		for _, k := range []int{-1 << 63, -3660, -1, 1, 9, 10, 3660, 3661, 1 << 31, 1<<63 - 1} {
			other := with(func(n *api.Node) { n.K = k })
			if 0 <= k && k <= f.most {
				hold(t, other)
			} else {
				refused(t, f.word+": a K", other)
			}
		}
	}
	refused(t, "a stray below", api.Tree{call(api.OpField, "or", 0), over(api.OpNot, 0)})
	refused(t, "a number below nought below", api.Tree{number(-1, 0), over(api.OpNeg, 0)})
}

// TestChanged: trees that may be, with one part of one node changed, with one node more, one less, and two changed round.
func TestChanged(t *testing.T) { // P16.1, P16.2
	m := mixer{7}
	held := 0
	for i := range 40000 {
		tree := m.grown(1+m.below(1+i%20), allOps())
		other := slices.Clone(tree)
		switch at := m.below(len(tree)); m.below(9) {
		case 0:
			other[at].Op = uint8(m.below(40))
		case 1:
			other[at].Kids[m.below(3)] = m.below(len(tree)+3) - 2
		case 2:
			other[at].Name = one(&m, "", "a", "b", "or", "abcdefghijklm")
		case 3:
			other[at].K = m.below(14) - 2
		case 4:
			other[at].N = api.Dec{C: int64(m.below(30) - 3), S: m.below(12) - 1}
		case 5:
			other = slices.Insert(other, at, m.filled(api.OpField))
		case 6:
			other = slices.Delete(other, at, at+1)
		case 7:
			to := m.below(len(tree))
			other[at], other[to] = other[to], other[at]
		case 8:
			other[at].At += m.below(3)
		}
		if hold(t, other) != "" && !alike(tree, other) {
			held++
		}
		if got := printer.Same(tree, other); got != alike(tree, other) {
			t.Fatalf("Same(%v, %v) = %v", tree, other, got)
		}
	}
	if held < 1000 {
		t.Errorf("%d changed trees may be", held)
	}
}

// TestShort: all trees of one and of two nodes out of many parts.
func TestShort(t *testing.T) { // P16.1
	parts := func(tell func(n api.Node)) {
		for op := range 32 {
			for _, name := range []string{"", "a", "if"} {
				for _, d := range []api.Dec{{}, {C: 1}, {C: -1}, {C: 10, S: 1}} {
					for _, k := range []int{-1, 0, 9, 10} {
						tell(api.Node{Op: uint8(op), Name: name, N: d, K: k})
					}
				}
			}
		}
	}
	kids := func(n api.Node, tell func(n api.Node)) {
		for i := range 64 {
			n.Kids = [3]int{i%4 - 2, i/4%4 - 2, i/16 - 2}
			tell(n)
		}
	}
	parts(func(n api.Node) {
		kids(n, func(n api.Node) {
			hold(t, api.Tree{n})
			hold(t, api.Tree{atom("a"), n})
			hold(t, api.Tree{n, over(api.OpNot, 0)})
		})
	})
}

// TestSame: trees that differ in each part of a node alone, in the number of nodes, and in places alone; of those too that may not be.
func TestSame(t *testing.T) { // P16.2
	same := func(a, b api.Tree, want bool) {
		t.Helper()
		before := []api.Tree{slices.Clone(a), slices.Clone(b)}
		if printer.Same(a, b) != want || printer.Same(b, a) != want || alike(a, b) != want {
			t.Errorf("Same(%v, %v) is not %v", a, b, want)
		}
		if !slices.Equal(a, before[0]) || !slices.Equal(b, before[1]) {
			t.Errorf("%v, %v were changed to %v, %v", before[0], before[1], a, b)
		}
	}
	same(nil, nil, true)
	same(nil, api.Tree{}, true)
	same(api.Tree{}, api.Tree{{}}, false)
	same(api.Tree{{}}, api.Tree{{}}, true)
	same(api.Tree{{}}, api.Tree{{}, {}}, false)
	trees := []api.Tree{{{}}, {atom("a")}, {number(10, 1), number(1, 0)}, {over(99, -5, 7, 7)}, chain(api.OpAdd, 60, "a"), shared(50)}
	for _, s := range formulas() {
		trees = append(trees, read(t, s))
	}
	for _, tree := range trees {
		same(tree, tree, true)
		same(tree, slices.Clone(tree), true)
		same(tree, tree[1:], false)
		same(tree, tree[:len(tree)-1], false)
		same(tree, append(slices.Clone(tree), api.Node{}), false)
		for i := range tree {
			for _, by := range []int{1, -1, 1 << 40} {
				for part := range 8 {
					other := slices.Clone(tree)
					switch part {
					case 0:
						other[i].Op ^= 1
					case 1:
						other[i].N.C += int64(by)
					case 2:
						other[i].N.S += by
					case 3:
						other[i].Name += "a"
					case 4:
						other[i].K += by
					case 5, 6, 7:
						other[i].Kids[part-5] += by
					}
					same(tree, other, false)
					other[i].At += by
					same(tree, other, false)
				}
				other := slices.Clone(tree)
				other[i].At += by
				same(tree, other, true)
			}
		}
	}
	same(api.Tree{number(10, 1)}, api.Tree{number(1, 0)}, false)
	same(api.Tree{atom("a")}, api.Tree{atom("A")}, false)
	same(read(t, "a + b"), read(t, "b + a"), false)
	same(read(t, "a - b - c"), read(t, "a - (b - c)"), false)
	same(read(t, "((a)-b)-  c"), read(t, "a - b - c"), true)
}

// TestOfItsOwn: what is told stays, whatever becomes of the tree and of its names' bytes; and is told again.
func TestOfItsOwn(t *testing.T) { // P16.1
	for _, s := range formulas() {
		tree := read(t, s)
		bytes := make([][]byte, len(tree))
		for i := range tree {
			if bytes[i] = []byte(tree[i].Name); len(bytes[i]) > 0 {
				tree[i].Name = unsafe.String(&bytes[i][0], len(bytes[i]))
			}
		}
		got, _ := printer.Text(tree)
		for i := range tree {
			for j := range bytes[i] {
				bytes[i][j] = 'x'
			}
			tree[i] = api.Node{}
		}
		if got != s {
			t.Errorf("%q became %q", s, got)
		}
		told(t, s, s)
	}
}
