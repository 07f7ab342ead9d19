package parser_test

import (
	"slices"
	"strings"
	"testing"
	"unsafe"

	"corrody/api"
	"corrody/lexer"
	"corrody/parser"
)

// answer is what Parse tells.
type answer struct {
	t  api.Tree
	at int
	e  api.Errno
}

func parse(s string) answer {
	t, at, e := parser.Parse(s)
	return answer{t, at, e}
}

// fine is an answer without an error.
func fine(l ...api.Node) answer { return answer{t: l} }

// bad is an answer with an error, and no tree beside it.
func bad(e api.Errno, at int) answer { return answer{at: at, e: e} }

func same(a, b answer) bool { return slices.Equal(a.t, b.t) && a.at == b.at && a.e == b.e }

// The nodes of a tree, as the chapter lays them out: all that is not named is 0, or empty, or a Kid of -1.

func number(at int, c int64, s int) api.Node {
	return api.Node{Op: api.OpNumber, N: api.Dec{C: c, S: s}, Kids: [3]int{-1, -1, -1}, At: at}
}

func field(at int, name string) api.Node {
	return api.Node{Op: api.OpField, Name: name, Kids: [3]int{-1, -1, -1}, At: at}
}

// op is a node above others.
func op(o uint8, at int, kids ...int) api.Node {
	n := api.Node{Op: o, Kids: [3]int{-1, -1, -1}, At: at}
	copy(n.Kids[:], kids)
	return n
}

// named is a call of a field, and of a number or an expression beside it.
func named(o uint8, at int, name string, k int, kids ...int) api.Node {
	n := op(o, at, kids...)
	n.Name, n.K = name, k
	return n
}

// rounded is a call of round.
func rounded(at, k, kid int) api.Node { return named(api.OpRound, at, "", k, kid) }

// check holds what Parse tells against what is written by hand, and against what the stack tells.
func check(t *testing.T, s string, hand answer) {
	t.Helper()
	if got := parse(s); !same(got, hand) {
		t.Errorf("Parse(%.120q), of %d bytes, = %v, want %v", s, len(s), got, hand)
	}
	if other := want(s); !same(other, hand) {
		t.Errorf("of %.120q, of %d bytes, the stack tells %v, want %v", s, len(s), other, hand)
	}
}

// shape is a tree as text: its op's word ahead of what stands below, all in parentheses.
func shape(t api.Tree) string {
	signs := map[uint8]string{api.OpNot: "not", api.OpNeg: "neg", api.OpTrue: "true", api.OpFalse: "false", api.OpNumber: "1"}
	for w, x := range infixForms {
		signs[x.op] = w
	}
	for w, x := range callForms {
		signs[x.op] = w
	}
	var of func(place int) string
	of = func(place int) string {
		n := t[place]
		if n.Op == api.OpField {
			return n.Name
		}
		l := []string{signs[n.Op]}
		if n.Name != "" {
			l = append(l, n.Name)
		}
		for _, kid := range n.Kids {
			if kid >= 0 {
				l = append(l, of(kid))
			}
		}
		if len(l) == 1 {
			return l[0]
		}
		return "(" + strings.Join(l, " ") + ")"
	}
	if len(t) == 0 {
		return ""
	}
	return of(len(t) - 1)
}

// shaped holds the shape of a text's tree against what is written by hand.
func shaped(t *testing.T, s, hand string) {
	t.Helper()
	got := parse(s)
	if got.e != api.OK || got.at != 0 || shape(got.t) != hand {
		t.Errorf("Parse(%q) = %s, %d, %d, want %s", s, shape(got.t), got.at, got.e, hand)
	}
	hold(t, s)
}

// ordered is whether each node stands behind those below it, these from the left to the right, and each is below one alone.
func ordered(t api.Tree) bool {
	next := 0
	var of func(place int) bool
	of = func(place int) bool {
		for _, kid := range t[place].Kids {
			if kid >= place || kid < -1 || kid >= 0 && !of(kid) {
				return false
			}
		}
		next++
		return place == next-1
	}
	return len(t) > 0 && of(len(t)-1) && next == len(t)
}

// hold holds what Parse tells of a text against what the stack tells, the place of a fault against the grammar, and the tree's order.
func hold(t *testing.T, s string) {
	t.Helper()
	got := parse(s)
	if !same(got, want(s)) {
		t.Fatalf("Parse(%q) = %v, want %v", s, got, want(s))
	}
	l, at, e := lexer.Lex(s)
	if e != api.OK {
		if !same(got, bad(e, at)) {
			t.Fatalf("Parse(%q) = %v; of Lex %d, %d", s, got, at, e)
		}
		return
	}
	if got.e == api.OK && !ordered(got.t) {
		t.Fatalf("Parse(%q) = %v: the nodes' order", s, got)
	}
	place, is := stuck(s, l)
	if got.e != api.ErrDepth && is != (got.e == api.ErrForm) || got.e == api.ErrForm && place != got.at || got.e == api.ErrDepth && is && place <= got.at {
		t.Fatalf("Parse(%q) = %v; by the grammar %v at %d", s, got, is, place)
	}
}

// moved is a tree with all places in the text so much farther.
func moved(t api.Tree, by int) []api.Node {
	l := slices.Clone(t)
	for i := range l {
		l[i].At += by
	}
	return l
}

// times is a text, so many times.
func times(n int, s string) string { return strings.Repeat(s, n) }

// kept are the words that are no field's.
func kept() []string {
	return []string{"true", "false", "and", "or", "not", "if", "min", "max", "abs", "round", "has", "orelse", "lag", "least", "most", "any", "every"}
}

// comparisons are the words of them.
func comparisons() []string { return []string{"=", "<>", "<", "<=", ">", ">="} }

// formulas are texts of all kinds that are read.
func formulas() []string {
	return []string{
		"a", "0", "2.5", "true", "false", "a + 2 * b", "not a = b", "a - b - c", "-a * -b / --c", "not not a and b or not c",
		"if(has(pay), round(pay / 12, 2), orelse(pay, 0.5))", "min(max(a, 1), abs(-b)) <= 9",
		"lag(a, 1) + least(b, 30) - most(c, 365) * 2", "any(p, 0) or every(q, 3660) and not (a < b or p)", "(((a)) + ((b))) * (c)",
		"if(a = b, if(p, 1, 2), if(q or p, 3, 4))", "  a  <>  - ( b )  ", "orelse(a, orelse(b, orelse(c, 0)))", "round(a, 0) = round(b, 9)",
		times(16, "(") + "a" + times(16, ")"), times(49, "a + ") + "a",
	}
}

// TestExamples are the chapter's examples.
func TestExamples(t *testing.T) { // P15.1
	check(t, "a + 2 * b", fine(field(0, "a"), number(4, 2, 0), field(8, "b"), op(api.OpMul, 6, 1, 2), op(api.OpAdd, 2, 0, 3)))
	check(t, "not a = b", fine(field(4, "a"), field(8, "b"), op(api.OpEq, 6, 0, 1), op(api.OpNot, 0, 2)))
	check(t, "a < b < c", bad(api.ErrForm, 6))
	check(t, "lag(a, 3661)", bad(api.ErrForm, 7))
	// What the chapter tells of levels.
	shaped(t, "a - b - c", "(- (- a b) c)")
}

// TestAtoms: a word alone is a node alone.
func TestAtoms(t *testing.T) { // P15.1
	for _, ahead := range []string{"", " ", "   "} {
		for _, behind := range []string{"", " ", "    "} {
			n := len(ahead)
			check(t, ahead+"a"+behind, fine(field(n, "a")))
			check(t, ahead+"abcdefghijkl"+behind, fine(field(n, "abcdefghijkl")))
			check(t, ahead+"true1"+behind, fine(field(n, "true1")))
			check(t, ahead+"0"+behind, fine(number(n, 0, 0)))
			check(t, ahead+"20"+behind, fine(number(n, 20, 0)))
			check(t, ahead+"0.000000001"+behind, fine(number(n, 1, 9)))
			check(t, ahead+"12.75"+behind, fine(number(n, 1275, 2)))
			check(t, ahead+"9223372036854775807"+behind, fine(number(n, 9223372036854775807, 0)))
			check(t, ahead+"true"+behind, fine(op(api.OpTrue, n)))
			check(t, ahead+"false"+behind, fine(op(api.OpFalse, n)))
		}
	}
	for _, s := range []string{"nota", "or1", "ands", "iff", "mina", "lag0", "e", "orels", "least2"} {
		check(t, s, fine(field(0, s)))
	}
}

// TestTruths: true and false stand where any other atom does.
func TestTruths(t *testing.T) { // P15.1
	check(t, "true and false", fine(op(api.OpTrue, 0), op(api.OpFalse, 9), op(api.OpAnd, 5, 0, 1)))
	check(t, "-true", fine(op(api.OpTrue, 1), op(api.OpNeg, 0, 0)))
	check(t, "not false", fine(op(api.OpFalse, 4), op(api.OpNot, 0, 0)))
	check(t, "true*false<true", fine(op(api.OpTrue, 0), op(api.OpFalse, 5), op(api.OpMul, 4, 0, 1), op(api.OpTrue, 11), op(api.OpLt, 10, 2, 3)))
	check(t, "if(true,false,true)", fine(op(api.OpTrue, 3), op(api.OpFalse, 8), op(api.OpTrue, 14), op(api.OpIf, 0, 0, 1, 2)))
	check(t, "orelse(a, true)", fine(op(api.OpTrue, 10), named(api.OpOrElse, 0, "a", 0, 0)))
	check(t, "true()", bad(api.ErrForm, 4))
	check(t, "false(a)", bad(api.ErrForm, 5))
	check(t, "true false", bad(api.ErrForm, 5))
	check(t, "true true", bad(api.ErrForm, 5))
	check(t, "has(true)", bad(api.ErrForm, 4))
	check(t, "lag(a, true)", bad(api.ErrForm, 7))
}

// TestInfix: each word between two expressions alone.
func TestInfix(t *testing.T) { // P15.1
	for w, o := range map[string]uint8{
		"or": 5, "and": 6, "=": 8, "<>": 9, "<": 10, "<=": 11, ">": 12, ">=": 13, "+": 14, "-": 15, "*": 16, "/": 17,
	} {
		check(t, "a "+w+" b", fine(field(0, "a"), field(3+len(w), "b"), op(o, 2, 0, 1)))
		check(t, "  2.5 "+w+"  true ", fine(number(2, 25, 1), op(api.OpTrue, 8+len(w)), op(o, 6, 0, 1)))
		check(t, "(a)"+w+"(b)", fine(field(1, "a"), field(4+len(w), "b"), op(o, 3, 0, 1)))
		check(t, "a "+w, bad(api.ErrForm, 2+len(w)))
		check(t, "a "+w+" ", bad(api.ErrForm, 3+len(w)))
		check(t, "a "+w+" )", bad(api.ErrForm, 3+len(w)))
		check(t, "a "+w+" ,", bad(api.ErrForm, 3+len(w)))
		check(t, "a "+w+" * b", bad(api.ErrForm, 3+len(w)))
		check(t, "a "+w+" = b", bad(api.ErrForm, 3+len(w)))
		check(t, "a "+w+" or b", bad(api.ErrForm, 3+len(w)))
		if w == "-" {
			check(t, "- b", fine(field(2, "b"), op(api.OpNeg, 0, 0)))
			check(t, "(- b)", fine(field(3, "b"), op(api.OpNeg, 1, 0)))
			continue
		}
		check(t, w+" b", bad(api.ErrForm, 0))
		check(t, w, bad(api.ErrForm, 0))
		check(t, "("+w+" b)", bad(api.ErrForm, 1))
		check(t, "a + "+w+" b", bad(api.ErrForm, 4))
		check(t, "if(a, "+w+" b, c)", bad(api.ErrForm, 6))
	}
	check(t, "a not b", bad(api.ErrForm, 2))
	check(t, "a not = b", bad(api.ErrForm, 2))
	check(t, "a min b", bad(api.ErrForm, 2))
	check(t, "a , b", bad(api.ErrForm, 2))
	check(t, "a <> = b", bad(api.ErrForm, 5))
	check(t, "a =< b", bad(api.ErrForm, 3))
	check(t, "a => b", bad(api.ErrForm, 3))
	check(t, "a == b", bad(api.ErrForm, 3))
	check(t, "a <>= b", bad(api.ErrForm, 4))
	check(t, "a >< b", bad(api.ErrForm, 3))
	check(t, "a ** b", bad(api.ErrForm, 3))
}

// TestPairs: each word between two expressions beside each other one, and beside itself: what stands at one level goes to the left first, what binds more stands below.
func TestPairs(t *testing.T) { // P15.1
	levels := [][]string{{"or"}, {"and"}, comparisons(), {"+", "-"}, {"*", "/"}}
	for i, first := range levels {
		for j, second := range levels {
			for _, x := range first {
				for _, y := range second {
					s := "a " + x + " b " + y + " c"
					switch {
					case i == 2 && j == 2:
						check(t, s, bad(api.ErrForm, 5+len(x)))
					case i >= j:
						shaped(t, s, "("+y+" ("+x+" a b) c)")
					default:
						shaped(t, s, "("+x+" a ("+y+" b c))")
					}
					shaped(t, "(a "+x+" b) "+y+" c", "("+y+" ("+x+" a b) c)")
					shaped(t, "a "+x+" (b "+y+" c)", "("+x+" a ("+y+" b c))")
				}
			}
		}
	}
	shaped(t, "a or b or c or d", "(or (or (or a b) c) d)")
	shaped(t, "a and b and c and d", "(and (and (and a b) c) d)")
	shaped(t, "a - b + c - d", "(- (+ (- a b) c) d)")
	shaped(t, "a / b * c / d", "(/ (* (/ a b) c) d)")
	shaped(t, "a or b and c = d + e * f", "(or a (and b (= c (+ d (* e f)))))")
	shaped(t, "a * b + c = d and e or f", "(or (and (= (+ (* a b) c) d) e) f)")
	shaped(t, "a * b - c * d - e / f", "(- (- (* a b) (* c d)) (/ e f))")
	shaped(t, "a < b and c >= d or e <> f", "(or (and (< a b) (>= c d)) (<> e f))")
	shaped(t, "a or b and c or d and e", "(or (or a (and b c)) (and d e))")
	check(t, "a - b - c", fine(field(0, "a"), field(4, "b"), op(api.OpSub, 2, 0, 1), field(8, "c"), op(api.OpSub, 6, 2, 3)))
	check(t, "a*b+c*d", fine(field(0, "a"), field(2, "b"), op(api.OpMul, 1, 0, 1), field(4, "c"), field(6, "d"), op(api.OpMul, 5, 3, 4), op(api.OpAdd, 3, 2, 5)))
}

// TestComparisons: one behind another is none, but for parentheses and what stands above both.
func TestComparisons(t *testing.T) { // P15.1
	for _, x := range comparisons() {
		for _, y := range comparisons() {
			check(t, "a "+x+" b "+y+" c", bad(api.ErrForm, 5+len(x)))
			check(t, "(a "+x+" b "+y+" c)", bad(api.ErrForm, 6+len(x)))
			check(t, "not a "+x+" b "+y+" c", bad(api.ErrForm, 9+len(x)))
			check(t, "p or a "+x+" b + 1 "+y+" c", bad(api.ErrForm, 14+len(x)))
			check(t, "abs(a "+x+" -b "+y+" c)", bad(api.ErrForm, 10+len(x)))
			shaped(t, "a "+x+" b and c "+y+" d", "(and ("+x+" a b) ("+y+" c d))")
			shaped(t, "a "+x+" b or c "+y+" d", "(or ("+x+" a b) ("+y+" c d))")
			shaped(t, "min(a "+x+" b, c "+y+" d)", "(min ("+x+" a b) ("+y+" c d))")
			shaped(t, "not a "+x+" b and not c "+y+" d", "(and (not ("+x+" a b)) (not ("+y+" c d)))")
		}
	}
}

// TestNot stands ahead of comparisons and of itself, and nowhere where a sum is asked.
func TestNot(t *testing.T) { // P15.1
	check(t, "not a", fine(field(4, "a"), op(api.OpNot, 0, 0)))
	check(t, "not not a", fine(field(8, "a"), op(api.OpNot, 4, 0), op(api.OpNot, 0, 1)))
	check(t, "not(a)", fine(field(4, "a"), op(api.OpNot, 0, 0)))
	check(t, "not", bad(api.ErrForm, 3))
	check(t, "not ", bad(api.ErrForm, 4))
	check(t, "not not", bad(api.ErrForm, 7))
	check(t, "(not)", bad(api.ErrForm, 4))
	for _, x := range comparisons() {
		shaped(t, "not a "+x+" b", "(not ("+x+" a b))")
		shaped(t, "not not a "+x+" b", "(not (not ("+x+" a b)))")
		shaped(t, "(not a) "+x+" b", "("+x+" (not a) b)")
		shaped(t, "a "+x+" (not b)", "("+x+" a (not b))")
		check(t, "a "+x+" not b", bad(api.ErrForm, 3+len(x)))
		check(t, "not a "+x+" not b", bad(api.ErrForm, 7+len(x)))
	}
	for _, x := range []string{"+", "-", "*", "/"} {
		shaped(t, "not a "+x+" b", "(not ("+x+" a b))")
		check(t, "a "+x+" not b", bad(api.ErrForm, 4))
	}
	for _, x := range []string{"and", "or"} {
		shaped(t, "not a "+x+" b", "("+x+" (not a) b)")
		shaped(t, "a "+x+" not b", "("+x+" a (not b))")
		shaped(t, "a "+x+" not not b", "("+x+" a (not (not b)))")
		shaped(t, "not a "+x+" not b", "("+x+" (not a) (not b))")
		shaped(t, "not (a "+x+" b)", "(not ("+x+" a b))")
		shaped(t, "a "+x+" not b "+x+" c", "("+x+" ("+x+" a (not b)) c)")
	}
	shaped(t, "not a and b or c", "(or (and (not a) b) c)")
	shaped(t, "a or not b = c and d", "(or a (and (not (= b c)) d))")
	shaped(t, "if(not a, not b, not c)", "(if (not a) (not b) (not c))")
	shaped(t, "min(not a, not not b)", "(min (not a) (not (not b)))")
	shaped(t, "orelse(p, not q)", "(orelse p (not q))")
	shaped(t, "(not (not a))", "(not (not a))")
	shaped(t, "not -a", "(not (neg a))")
	check(t, "-not a", bad(api.ErrForm, 1))
	check(t, "- - not a", bad(api.ErrForm, 4))
	check(t, "has(not a)", bad(api.ErrForm, 4))
	check(t, "a not", bad(api.ErrForm, 2))
	check(t, "not and b", bad(api.ErrForm, 4))
	check(t, "not = b", bad(api.ErrForm, 4))
}

// TestMinus: a minus ahead of what it has binds more than all that stands between two.
func TestMinus(t *testing.T) { // P15.1
	check(t, "-a", fine(field(1, "a"), op(api.OpNeg, 0, 0)))
	check(t, "--a", fine(field(2, "a"), op(api.OpNeg, 1, 0), op(api.OpNeg, 0, 1)))
	check(t, "- - - a", fine(field(6, "a"), op(api.OpNeg, 4, 0), op(api.OpNeg, 2, 1), op(api.OpNeg, 0, 2)))
	check(t, "-2.5", fine(number(1, 25, 1), op(api.OpNeg, 0, 0)))
	check(t, "-0", fine(number(1, 0, 0), op(api.OpNeg, 0, 0)))
	check(t, "-9223372036854775807", fine(number(1, 9223372036854775807, 0), op(api.OpNeg, 0, 0)))
	check(t, "-9223372036854775808", bad(api.ErrOver, 1))
	check(t, "-lag(a, 7)", fine(named(api.OpLag, 1, "a", 7), op(api.OpNeg, 0, 0)))
	check(t, "-min(a,b)", fine(field(5, "a"), field(7, "b"), op(api.OpMin, 1, 0, 1), op(api.OpNeg, 0, 2)))
	check(t, "-abs(-a)", fine(field(6, "a"), op(api.OpNeg, 5, 0), op(api.OpAbs, 1, 1), op(api.OpNeg, 0, 2)))
	check(t, "a*-b", fine(field(0, "a"), field(3, "b"), op(api.OpNeg, 2, 1), op(api.OpMul, 1, 0, 2)))
	check(t, "a--b", fine(field(0, "a"), field(3, "b"), op(api.OpNeg, 2, 1), op(api.OpSub, 1, 0, 2)))
	check(t, "a - -1", fine(field(0, "a"), number(5, 1, 0), op(api.OpNeg, 4, 1), op(api.OpSub, 2, 0, 2)))
	check(t, "1-1", fine(number(0, 1, 0), number(2, 1, 0), op(api.OpSub, 1, 0, 1)))
	for _, x := range []string{"or", "and", "=", "<>", "<", "<=", ">", ">=", "+", "-", "*", "/"} {
		shaped(t, "-a "+x+" b", "("+x+" (neg a) b)")
		shaped(t, "a "+x+" -b", "("+x+" a (neg b))")
		shaped(t, "a "+x+" --b", "("+x+" a (neg (neg b)))")
		shaped(t, "-a "+x+" -b", "("+x+" (neg a) (neg b))")
		shaped(t, "-(a "+x+" b)", "(neg ("+x+" a b))")
	}
	shaped(t, "a - b * -c - d", "(- (- a (* b (neg c))) d)")
	shaped(t, "not -a < -b", "(not (< (neg a) (neg b)))")
	shaped(t, "-true", "(neg true)")
	shaped(t, "if(-a, -b, -c)", "(if (neg a) (neg b) (neg c))")
	check(t, "-", bad(api.ErrForm, 1))
	check(t, "--", bad(api.ErrForm, 2))
	check(t, "a-", bad(api.ErrForm, 2))
	check(t, "a--", bad(api.ErrForm, 3))
	check(t, "-)", bad(api.ErrForm, 1))
	check(t, "-+a", bad(api.ErrForm, 1))
	check(t, "-*a", bad(api.ErrForm, 1))
	check(t, "+a", bad(api.ErrForm, 0))
	check(t, "a + + b", bad(api.ErrForm, 4))
	check(t, "- and", bad(api.ErrForm, 2))
}

// TestCalls: each call with all that it asks.
func TestCalls(t *testing.T) { // P15.1
	check(t, "if(a, b, c)", fine(field(3, "a"), field(6, "b"), field(9, "c"), op(api.OpIf, 0, 0, 1, 2)))
	check(t, "min(a, b)", fine(field(4, "a"), field(7, "b"), op(api.OpMin, 0, 0, 1)))
	check(t, "max(a, b)", fine(field(4, "a"), field(7, "b"), op(api.OpMax, 0, 0, 1)))
	check(t, "abs(a)", fine(field(4, "a"), op(api.OpAbs, 0, 0)))
	check(t, "round(a, 2)", fine(field(6, "a"), rounded(0, 2, 0)))
	check(t, "has(a)", fine(named(api.OpHas, 0, "a", 0)))
	check(t, "orelse(a, b)", fine(field(10, "b"), named(api.OpOrElse, 0, "a", 0, 0)))
	check(t, "lag(a, 1)", fine(named(api.OpLag, 0, "a", 1)))
	check(t, "least(a, 30)", fine(named(api.OpLeast, 0, "a", 30)))
	check(t, "most(a, 365)", fine(named(api.OpMost, 0, "a", 365)))
	check(t, "any(a, 0)", fine(named(api.OpAny, 0, "a", 0)))
	check(t, "every(a, 3660)", fine(named(api.OpEvery, 0, "a", 3660)))
	check(t, " if ( a , b , c ) ", fine(field(6, "a"), field(10, "b"), field(14, "c"), op(api.OpIf, 1, 0, 1, 2)))
	check(t, "  lag  (  pay  ,  12  )  ", fine(named(api.OpLag, 2, "pay", 12)))
	check(t, "if(a+1<b,not c,-d)", fine(field(3, "a"), number(5, 1, 0), op(api.OpAdd, 4, 0, 1), field(7, "b"), op(api.OpLt, 6, 2, 3),
		field(13, "c"), op(api.OpNot, 9, 5), field(16, "d"), op(api.OpNeg, 15, 7), op(api.OpIf, 0, 4, 6, 8)))
	check(t, "1+round(a/3,2)*lag(b,7)", fine(number(0, 1, 0), field(8, "a"), number(10, 3, 0), op(api.OpDiv, 9, 1, 2), rounded(2, 2, 3), named(api.OpLag, 15, "b", 7),
		op(api.OpMul, 14, 4, 5), op(api.OpAdd, 1, 0, 6)))
	check(t, "orelse(a,orelse(b,2))", fine(number(18, 2, 0), named(api.OpOrElse, 9, "b", 0, 0), named(api.OpOrElse, 0, "a", 0, 1)))
	check(t, "orelse(a, 1) or has(b)", fine(number(10, 1, 0), named(api.OpOrElse, 0, "a", 0, 0), named(api.OpHas, 16, "b", 0), op(api.OpOr, 13, 1, 2)))
	shaped(t, "max(min(a, b), abs(c))", "(max (min a b) (abs c))")
	shaped(t, "if(if(a, b, c), if(d, e, f), if(g, h, i))", "(if (if a b c) (if d e f) (if g h i))")
	shaped(t, "if(a or b, c and d, e = f)", "(if (or a b) (and c d) (= e f))")
	shaped(t, "abs(a) - abs(b) - abs(c)", "(- (- (abs a) (abs b)) (abs c))")
	shaped(t, "round(round(a, 2), 0)", "(round (round a))")
}

// wholeCalls are the words of each call, with all that it asks.
func wholeCalls() [][]string {
	return [][]string{
		{"if", "(", "a", ",", "b", ",", "c", ")"}, {"min", "(", "a", ",", "b", ")"}, {"max", "(", "a", ",", "b", ")"}, {"abs", "(", "a", ")"}, {"round", "(", "a", ",", "2", ")"},
		{"has", "(", "a", ")"}, {"orelse", "(", "a", ",", "b", ")"},
		{"lag", "(", "a", ",", "1", ")"}, {"least", "(", "a", ",", "1", ")"}, {"most", "(", "a", ",", "1", ")"}, {"any", "(", "a", ",", "1", ")"}, {"every", "(", "a", ",", "1", ")"},
	}
}

// placeOf is where the i-th one of words stands, if they are told with a blank between; the text's length, if there are no more.
func placeOf(l []string, i int) int {
	if i >= len(l) {
		return len(strings.Join(l, " "))
	}
	return len(strings.Join(append(slices.Clone(l[:i]), ""), " "))
}

// TestCallsFaults: each call with one less, with one more, with a word missing, alone.
func TestCallsFaults(t *testing.T) { // P15.1
	refused := func(at int, l ...string) {
		t.Helper()
		check(t, strings.Join(l, " "), bad(api.ErrForm, placeOf(l, at)))
	}
	for _, l := range wholeCalls() {
		end := len(l) - 1
		refused(1, l[0])
		refused(3, "a", "+", l[0], "+")
		refused(4, "(", "a", "+", l[0], ")")
		refused(2, l[0], "(")
		refused(2, l[0], "(", ")")
		refused(2, l[0], "(", ",")
		refused(1, l[0], ")")
		refused(1, l[0], "a")
		refused(1, l[0], "a", ")")
		refused(1, l[0], l[0])
		// An ( missing, a ) missing, and what is behind the call.
		refused(1, slices.Delete(slices.Clone(l), 1, 2)...)
		refused(end, l[:end]...)
		refused(end+1, append(slices.Clone(l), ")")...)
		refused(end+1, append(slices.Clone(l), ",")...)
		refused(end+1, append(slices.Clone(l), "(", "a", ")")...)
		refused(end+1, append(slices.Clone(l), "a")...)
		// One more, at the end.
		refused(end, append(slices.Clone(l[:end]), ",", "1", ")")...)
		refused(end, append(slices.Clone(l[:end]), ",", "a", ")")...)
		refused(end, append(slices.Clone(l[:end]), ",", ")")...)
		for i := 3; i < end; i += 2 {
			// A comma missing; twice; one less from there on; one less, but for the comma.
			refused(i, slices.Delete(slices.Clone(l), i, i+1)...)
			refused(i+1, slices.Insert(slices.Clone(l), i, ",")...)
			refused(i, append(slices.Clone(l[:i]), ")")...)
			refused(i+1, append(slices.Clone(l[:i+1]), ")")...)
			refused(i, l[:i]...)
			refused(i+1, l[:i+1]...)
			refused(i, slices.Replace(slices.Clone(l), i, i+1, "(")...)
		}
		for i := 2; i < end; i += 2 {
			// What is asked, but empty.
			refused(i, slices.Delete(slices.Clone(l), i, i+1)...)
		}
	}
	check(t, "if(a,b)", bad(api.ErrForm, 6))
	check(t, "if(a,b,c,d)", bad(api.ErrForm, 8))
	check(t, "min(a)", bad(api.ErrForm, 5))
	check(t, "max(a,b,c)", bad(api.ErrForm, 7))
	check(t, "abs()", bad(api.ErrForm, 4))
	check(t, "abs(a,b)", bad(api.ErrForm, 5))
	check(t, "round(a)", bad(api.ErrForm, 7))
	check(t, "has()", bad(api.ErrForm, 4))
	check(t, "has(a,b)", bad(api.ErrForm, 5))
	check(t, "orelse(a)", bad(api.ErrForm, 8))
	check(t, "lag(a)", bad(api.ErrForm, 5))
	check(t, "lag(1,a)", bad(api.ErrForm, 4))
	check(t, "lag(a,1", bad(api.ErrForm, 7))
	check(t, "lag a,1)", bad(api.ErrForm, 4))
	check(t, "min(a b)", bad(api.ErrForm, 6))
	check(t, "min((a,b))", bad(api.ErrForm, 6))
	check(t, "min(a,(b,c))", bad(api.ErrForm, 8))
	check(t, "min a", bad(api.ErrForm, 4))
	check(t, "if", bad(api.ErrForm, 2))
	check(t, "if a", bad(api.ErrForm, 3))
	check(t, "min(a,b", bad(api.ErrForm, 7))
}

// TestFields: where a field is asked, a name stands, and nothing else.
func TestFields(t *testing.T) { // P15.1
	calls := map[string]string{"has(": ")", "orelse(": ",1)", "lag(": ",1)", "least(": ",1)", "most(": ",1)", "any(": ",1)", "every(": ",1)"}
	others := append(kept(), "0", "1", "2.5", "(", ")", ",", "-", "+", "=", "<>")
	for ahead, behind := range calls {
		for _, s := range []string{"a", "pay", "abcdefghijkl", "x0", "trues", "nota", "e1"} {
			if got := parse(ahead + s + behind); got.e != api.OK || got.t[len(got.t)-1].Name != s {
				t.Errorf("Parse(%q) = %v", ahead+s+behind, got)
			}
			hold(t, ahead+s+behind)
			check(t, ahead+"("+s+")"+behind, bad(api.ErrForm, len(ahead)))
			check(t, ahead+"-"+s+behind, bad(api.ErrForm, len(ahead)))
			check(t, ahead+s+"+1"+behind, bad(api.ErrForm, len(ahead+s)))
			check(t, ahead+s+"("+behind, bad(api.ErrForm, len(ahead+s)))
			check(t, ahead+s+" a"+behind, bad(api.ErrForm, len(ahead+s)+1))
			check(t, ahead+s+"="+s+behind, bad(api.ErrForm, len(ahead+s)))
		}
		for _, s := range others {
			check(t, ahead+s+behind, bad(api.ErrForm, len(ahead)))
			check(t, ahead+" "+s+" "+behind, bad(api.ErrForm, len(ahead)+1))
		}
		check(t, ahead+behind, bad(api.ErrForm, len(ahead)))
		check(t, ahead, bad(api.ErrForm, len(ahead)))
		check(t, ahead+"has(a)"+behind, bad(api.ErrForm, len(ahead)))
	}
	for _, s := range []string{"a", "abs1", "trues", "has2", "abcdefghijkl", "x"} {
		// A field's name is no call's word.
		check(t, s+"(", bad(api.ErrForm, len(s)))
		check(t, s+"()", bad(api.ErrForm, len(s)))
		check(t, s+"(a)", bad(api.ErrForm, len(s)))
		check(t, s+" (a, b)", bad(api.ErrForm, len(s)+1))
		check(t, "1 + "+s+"(a)", bad(api.ErrForm, len(s)+4))
		check(t, "("+s+"(a))", bad(api.ErrForm, len(s)+1))
		check(t, times(16, "(")+s+"(a)", bad(api.ErrForm, len(s)+16))
	}
	// The kept words are no fields.
	for _, s := range []string{"and", "or"} {
		check(t, s, bad(api.ErrForm, 0))
		check(t, "a + "+s, bad(api.ErrForm, 4))
		check(t, "("+s+")", bad(api.ErrForm, 1))
	}
	for _, s := range kept() {
		if s != "true" && s != "false" && s != "and" && s != "or" {
			check(t, s, bad(api.ErrForm, len(s)))
			check(t, "("+s+")", bad(api.ErrForm, len(s)+1))
		}
		if s != "and" && s != "or" {
			check(t, "a "+s, bad(api.ErrForm, 2))
		}
	}
}

// TestWhole: where a whole number is asked, one without places stands, and none too great.
func TestWhole(t *testing.T) { // P15.1
	for _, c := range []struct {
		ahead string
		op    uint8
		fine  map[string]int
		above []string
	}{
		{"round(a, ", api.OpRound, map[string]int{"0": 0, "1": 1, "2": 2, "3": 3, "4": 4, "5": 5, "6": 6, "7": 7, "8": 8, "9": 9}, []string{"10", "11", "90", "3660", "256", "4294967296"}},
		{"lag(a, ", api.OpLag, map[string]int{"0": 0, "1": 1, "9": 9, "10": 10, "366": 366, "3659": 3659, "3660": 3660}, []string{"3661", "3670", "36600", "9999", "65536", "4294967296", "4294967297"}},
		{"least(a, ", api.OpLeast, map[string]int{"0": 0, "1": 1, "10": 10, "3660": 3660}, []string{"3661", "65536"}},
		{"most(a, ", api.OpMost, map[string]int{"0": 0, "1": 1, "10": 10, "3660": 3660}, []string{"3661", "65536"}},
		{"any(a, ", api.OpAny, map[string]int{"0": 0, "1": 1, "10": 10, "3660": 3660}, []string{"3661", "65536"}},
		{"every(a, ", api.OpEvery, map[string]int{"0": 0, "1": 1, "10": 10, "3660": 3660}, []string{"3661", "65536"}},
	} {
		n := len(c.ahead)
		for text, k := range c.fine {
			hand := fine(named(c.op, 0, "a", k))
			if c.op == api.OpRound {
				hand = fine(field(6, "a"), rounded(0, k, 0))
			}
			check(t, c.ahead+text+")", hand)
			check(t, c.ahead+"-"+text+")", bad(api.ErrForm, n))
			check(t, c.ahead+"("+text+"))", bad(api.ErrForm, n))
			check(t, c.ahead+text+"+1)", bad(api.ErrForm, n+len(text)))
			check(t, c.ahead+text+" 1)", bad(api.ErrForm, n+len(text)+1))
			check(t, c.ahead+text+",1)", bad(api.ErrForm, n+len(text)))
			check(t, c.ahead+text, bad(api.ErrForm, n+len(text)))
			check(t, c.ahead+text+".5)", bad(api.ErrForm, n))
			check(t, c.ahead+text+".000000001)", bad(api.ErrForm, n))
		}
		for _, s := range append(c.above, "0.5", "1.5", "0.1", "9.000000001", "3660.5", "2.25", "9223372036854775807", "9223372036.854775807", "a", "true", "not", "-", "+", ",", ")", "(") {
			check(t, c.ahead+s+")", bad(api.ErrForm, n))
			check(t, c.ahead+" "+s+" )", bad(api.ErrForm, n+1))
		}
		check(t, c.ahead+")", bad(api.ErrForm, n))
		check(t, c.ahead, bad(api.ErrForm, n))
		// Layer 14 tells these.
		check(t, c.ahead+"9223372036854775808)", bad(api.ErrOver, n))
		check(t, c.ahead+"01)", bad(api.ErrForm, n))
		check(t, c.ahead+"1.0)", bad(api.ErrForm, n))
	}
	// What looks like a number of days is an expression elsewhere.
	check(t, "3661", fine(number(0, 3661, 0)))
	check(t, "orelse(a, 3661.5)", fine(number(10, 36615, 1), named(api.OpOrElse, 0, "a", 0, 0)))
	check(t, "round(10, 9)", fine(number(6, 10, 0), rounded(0, 9, 0)))
}

// TestParentheses make no node, and change nothing but places.
func TestParentheses(t *testing.T) { // P15.1
	check(t, "(a)", fine(field(1, "a")))
	check(t, "((a))", fine(field(2, "a")))
	check(t, " ( ( 2.5 ) ) ", fine(number(5, 25, 1)))
	check(t, "(true)", fine(op(api.OpTrue, 1)))
	check(t, "(a + b)", fine(field(1, "a"), field(5, "b"), op(api.OpAdd, 3, 0, 1)))
	check(t, "(a)+(b)", fine(field(1, "a"), field(5, "b"), op(api.OpAdd, 3, 0, 1)))
	check(t, "((a)+(b))", fine(field(2, "a"), field(6, "b"), op(api.OpAdd, 4, 0, 1)))
	check(t, "a-(b-c)", fine(field(0, "a"), field(3, "b"), field(5, "c"), op(api.OpSub, 4, 1, 2), op(api.OpSub, 1, 0, 3)))
	check(t, "(a+b)*c", fine(field(1, "a"), field(3, "b"), op(api.OpAdd, 2, 0, 1), field(6, "c"), op(api.OpMul, 5, 2, 3)))
	check(t, "-(a*b)", fine(field(2, "a"), field(4, "b"), op(api.OpMul, 3, 0, 1), op(api.OpNeg, 0, 2)))
	check(t, "not (p and q)", fine(field(5, "p"), field(11, "q"), op(api.OpAnd, 7, 0, 1), op(api.OpNot, 0, 2)))
	check(t, "(a<b)<c", fine(field(1, "a"), field(3, "b"), op(api.OpLt, 2, 0, 1), field(6, "c"), op(api.OpLt, 5, 2, 3)))
	check(t, "a<(not b)", fine(field(0, "a"), field(7, "b"), op(api.OpNot, 3, 1), op(api.OpLt, 1, 0, 2)))
	check(t, "abs((a))", fine(field(5, "a"), op(api.OpAbs, 0, 0)))
	check(t, "()", bad(api.ErrForm, 1))
	check(t, "( )", bad(api.ErrForm, 2))
	check(t, "(())", bad(api.ErrForm, 2))
	check(t, "a()", bad(api.ErrForm, 1))
	check(t, "a + ()", bad(api.ErrForm, 5))
	check(t, "(", bad(api.ErrForm, 1))
	check(t, ")", bad(api.ErrForm, 0))
	check(t, ")(", bad(api.ErrForm, 0))
	check(t, ")a(", bad(api.ErrForm, 0))
	check(t, "(a", bad(api.ErrForm, 2))
	check(t, "(a ", bad(api.ErrForm, 3))
	check(t, "((a)", bad(api.ErrForm, 4))
	check(t, "(a + (b * c)", bad(api.ErrForm, 12))
	check(t, "a)", bad(api.ErrForm, 1))
	check(t, "(a))", bad(api.ErrForm, 3))
	check(t, "(a)) + b", bad(api.ErrForm, 3))
	check(t, "(a,b)", bad(api.ErrForm, 2))
	check(t, "(a b)", bad(api.ErrForm, 3))
	check(t, "(a)(b)", bad(api.ErrForm, 3))
	check(t, "(a) b", bad(api.ErrForm, 4))
	check(t, "(a + b) c", bad(api.ErrForm, 8))
	check(t, "(+ a)", bad(api.ErrForm, 1))
	check(t, "(a +)", bad(api.ErrForm, 4))
	for _, s := range formulas() {
		if strings.HasPrefix(s, times(16, "(")) {
			continue
		}
		for n := range 5 {
			check(t, times(n, "(")+s+times(n, ")"), fine(moved(parse(s).t, n)...))
			check(t, times(n, "( ")+s+times(n, " )"), fine(moved(parse(s).t, 2*n)...))
			check(t, times(n+1, "(")+s+times(n, ")"), bad(api.ErrForm, len(s)+2*n+1))
			check(t, times(n, "(")+s+times(n+1, ")"), bad(api.ErrForm, len(s)+2*n))
		}
	}
}

// TestBlanks change nothing but places.
func TestBlanks(t *testing.T) { // P15.1
	for _, s := range formulas() {
		first := parse(s)
		l, _, _ := lexer.Lex(s)
		for _, blanks := range []string{" ", "  "} {
			var wide strings.Builder
			places := map[int]int{}
			for _, w := range l {
				wide.WriteString(blanks)
				places[w.At] = wide.Len()
				wide.WriteString(w.Text)
			}
			hand := slices.Clone(first.t)
			for i := range hand {
				hand[i].At = places[hand[i].At]
			}
			if wide.Len() <= 400 {
				check(t, wide.String(), fine(hand...))
			}
		}
	}
}

// TestDeep: at most 16 levels are open at one place.
func TestDeep(t *testing.T) { // P15.1
	for _, x := range []struct {
		ahead  string
		at     int // where its word that opens a level stands
		behind string
	}{
		{"(", 0, ")"}, {"not ", 0, ""}, {"-", 0, ""}, {"abs(", 3, ")"}, {"if(", 2, ",1,2)"}, {"if(1,", 2, ",2)"}, {"if(1,2,", 2, ")"}, {"min(", 3, ",1)"}, {"min(1,", 3, ")"}, {"max(", 3, ",1)"}, {"max(1,", 3, ")"},
		{"round(", 5, ",2)"}, {"orelse(b,", 6, ")"},
	} {
		for _, n := range []int{1, 2, 15, 16} {
			s := times(n, x.ahead) + "a" + times(n, x.behind)
			if got := parse(s); got.e != api.OK {
				t.Errorf("Parse(%q) = %v", s, got)
			}
			hold(t, s)
		}
		at := 16*len(x.ahead) + x.at
		for _, n := range []int{17, 18, 20} {
			check(t, times(n, x.ahead)+"a"+times(n, x.behind), bad(api.ErrDepth, at))
		}
		// What stands behind is not looked at, but by layer 14.
		s := times(17, x.ahead)
		check(t, s, bad(api.ErrDepth, at))
		check(t, s+")", bad(api.ErrDepth, at))
		check(t, s+"b , ( c", bad(api.ErrDepth, at))
		check(t, s+"#", bad(api.ErrForm, len(s)))
		check(t, s+"+ 9223372036854775808", bad(api.ErrOver, len(s)+2))
	}
	// A call's word alone opens none.
	for _, l := range wholeCalls() {
		s := times(16, "(")
		check(t, s+l[0], bad(api.ErrForm, 16+len(l[0])))
		check(t, s+l[0]+"+", bad(api.ErrForm, 16+len(l[0])))
		check(t, s+l[0]+" a", bad(api.ErrForm, 16+len(l[0])+1))
		check(t, s+l[0]+" (", bad(api.ErrDepth, 16+len(l[0])+1))
		check(t, s+strings.Join(l, ""), bad(api.ErrDepth, 16+len(l[0])))
		check(t, s+strings.Join(l, "")+times(16, ")"), bad(api.ErrDepth, 16+len(l[0])))
		s = times(15, "(")
		hold(t, s+strings.Join(l, "")+times(15, ")"))
		if got := parse(s + strings.Join(l, "") + times(15, ")")); got.e != api.OK {
			t.Errorf("15 levels and %s: %v", l[0], got)
		}
	}
	// What needs no level may stand at the 16th.
	for _, s := range []string{"a + b * c", "a or b and c = d - 1", "2.5", "true", "a < b"} {
		check(t, times(16, "(")+s+times(16, ")"), fine(moved(parse(s).t, 16)...))
	}
	check(t, times(16, "(")+"a - b"+times(16, ")"), fine(field(16, "a"), field(20, "b"), op(api.OpSub, 18, 0, 1)))
	check(t, times(16, "(")+"a - -b"+times(16, ")"), bad(api.ErrDepth, 20))
	check(t, times(16, "(")+"a and not b"+times(16, ")"), bad(api.ErrDepth, 22))
	check(t, times(16, "(")+"a * (b)"+times(16, ")"), bad(api.ErrDepth, 20))
	// Where none may stand, no level is opened.
	check(t, times(16, "(")+"a not b", bad(api.ErrForm, 18))
	check(t, times(16, "(")+"a = not b", bad(api.ErrForm, 20))
	check(t, times(16, "(")+"a (b)", bad(api.ErrForm, 18))
	check(t, times(16, "(")+")", bad(api.ErrForm, 16))
	check(t, times(16, "(")+"* -a", bad(api.ErrForm, 16))
	check(t, times(16, "-")+"not a", bad(api.ErrForm, 16))
	check(t, times(16, "-"), bad(api.ErrForm, 16))
	check(t, "a b"+times(17, "("), bad(api.ErrForm, 2))
	check(t, ")"+times(17, "("), bad(api.ErrForm, 0))
}

// TestDeepMixed: levels of all kinds count together.
func TestDeepMixed(t *testing.T) { // P15.1
	// 15 levels: 4 parentheses, 3 nots, 2 minuses, 6 calls.
	ahead := "(not not (if(1,min(1,(not (abs(max(round(orelse(b,--"
	behind := "),2),1)))))" + ",2)" + "))"
	hold(t, ahead+"a"+behind)
	if got := parse(ahead + "a" + behind); got.e != api.OK {
		t.Fatalf("15 levels: %v", got)
	}
	for _, x := range [][2]string{{"(a)", ""}, {"-a", ""}, {"has(a)", ""}, {"lag(a,1)", ""}, {"a+(b)", ""}, {"min(a,b)", ""}} {
		if got := parse(ahead + x[0] + behind); got.e != api.OK {
			t.Errorf("16 levels, with %s: %v", x[0], got)
		}
		hold(t, ahead+x[0]+behind)
	}
	n := len(ahead)
	check(t, ahead+"((a))"+behind, bad(api.ErrDepth, n+1))
	check(t, ahead+"--a"+behind, bad(api.ErrDepth, n+1))
	check(t, ahead+"(-a)"+behind, bad(api.ErrDepth, n+1))
	check(t, ahead+"-(a)"+behind, bad(api.ErrDepth, n+1))
	check(t, ahead+"(not a)"+behind, bad(api.ErrDepth, n+1))
	check(t, ahead+"-has(a)"+behind, bad(api.ErrDepth, n+4))
	check(t, ahead+"abs(lag(a,1))"+behind, bad(api.ErrDepth, n+7))
	check(t, ahead+"(abs(a))"+behind, bad(api.ErrDepth, n+4))
	check(t, ahead+"-every (a,1)"+behind, bad(api.ErrDepth, n+7))
	check(t, ahead+"if(a, b, -c)"+behind, bad(api.ErrDepth, n+9))
	// The minuses go on to the end of what they have, and no farther.
	if got := parse(ahead + "a - (b)" + behind); got.e != api.OK {
		t.Errorf("a minus that has its end: %v", got)
	}
	check(t, ahead+"a*((((b))))"+behind, bad(api.ErrDepth, n+5))
}

// TestDeepAnew: what is closed is open no more, and as much may be opened behind it.
func TestDeepAnew(t *testing.T) { // P15.1
	full := []string{
		times(16, "(") + "a" + times(16, ")"), times(16, "-") + "a", times(16, "abs(") + "a" + times(16, ")"), times(8, "-(") + "a" + times(8, ")"),
		times(15, "-") + "has(a)", times(15, "(") + "lag(a,1)" + times(15, ")"), times(15, "(") + "round(a,1)" + times(15, ")"), times(15, "(") + "orelse(a,1)" + times(15, ")"),
		times(15, "(") + "if(a,b,c)" + times(15, ")"), times(14, "(") + "not -a" + times(14, ")"), times(15, "(") + "not a" + times(15, ")"),
	}
	for _, x := range full {
		for _, y := range full {
			for _, between := range []string{"*", " or ", "=", "-"} {
				s := x + between + y
				hold(t, s)
				if got := parse(s); got.e != api.OK {
					t.Errorf("Parse(%q) = %v", s, got)
				}
				at := len(s) + 1
				check(t, s+"+"+times(17, "-")+"a", bad(api.ErrDepth, at+16))
				check(t, s+"+"+times(17, "(")+"a"+times(17, ")"), bad(api.ErrDepth, at+16))
				// The 17th one is the one of the whole.
				if got := parse("(" + s + ")"); got.e != api.ErrDepth {
					t.Errorf("Parse(%q) = %v", "("+s+")", got)
				}
				hold(t, "("+s+")")
			}
		}
	}
	// Not has all of a comparison, but not what is behind "and", "or".
	nots := times(16, "not ")
	check(t, nots+"a = (b)", bad(api.ErrDepth, 68))
	check(t, nots+"a + -b", bad(api.ErrDepth, 68))
	check(t, nots+"a * has(b)", bad(api.ErrDepth, 71))
	for _, x := range []string{" and ", " or "} {
		hold(t, nots+"a"+x+nots+"b")
		if got := parse(nots + "a" + x + nots + "b" + x + "(c)" + x + times(16, "-") + "d"); got.e != api.OK {
			t.Errorf("nots side by side: %v", got)
		}
		check(t, nots+"a"+x+"not "+nots+"b", bad(api.ErrDepth, 65+len(x)+64))
	}
	// Minus has neither what is behind "*" nor the rest of the sum.
	for _, x := range []string{"*", "/", "+", "-", "=", " or "} {
		s := times(16, "-") + "a" + x + times(16, "-") + "b" + x
		if got := parse(strings.TrimSuffix(s, x)); got.e != api.OK {
			t.Errorf("minuses side by side: %v", got)
		}
		hold(t, s)
		check(t, times(16, "-")+"a"+x+times(17, "-")+"b", bad(api.ErrDepth, 33+len(x)))
	}
	// All that a call's parentheses enclose is a level deeper, whatever stands ahead of it there.
	deep, deeper := times(15, "(")+"a"+times(15, ")"), times(16, "(")+"a"+times(16, ")")
	shaped(t, "if("+deep+","+deep+","+deep+")", "(if a a a)")
	shaped(t, "min("+deep+",-"+times(14, "(")+"a"+times(14, ")")+")", "(min a (neg a))")
	check(t, "if("+deeper+",a,a)", bad(api.ErrDepth, 18))
	check(t, "if(a,"+deeper+",a)", bad(api.ErrDepth, 20))
	check(t, "if(a,a,"+deeper+")", bad(api.ErrDepth, 22))
	check(t, "if("+deep+","+deep+","+deeper+")", bad(api.ErrDepth, 3+32+32+15))
	check(t, "orelse(a,"+deeper+")", bad(api.ErrDepth, 24))
	shaped(t, "lag(a,1)+"+deeper, "(+ (lag a) a)")
	shaped(t, "has(a)+"+deeper+"+"+deeper, "(+ (+ (has a) a) a)")
}

// TestNodes: a tree has at most 100 nodes.
func TestNodes(t *testing.T) { // P15.1
	sum := func(n int) string { return times(n-1, "1+") + "1" } // of 2n-1 nodes
	for s, n := range map[string]int{
		sum(50): 99, "-" + sum(50): 100, "(-" + sum(50) + ")": 100, "--" + sum(50): 101, sum(51): 101, "-" + sum(51): 102, "not " + sum(50): 100, "not -" + sum(50): 101,
		"abs(" + sum(50) + ")": 100, "abs(abs(" + sum(50) + "))": 101, "round(" + sum(50) + ",0)": 100, "orelse(a," + sum(50) + ")": 100, "orelse(a,-" + sum(50) + ")": 101,
		"has(a)+" + sum(49): 99, "lag(a,1)+" + sum(50): 101, "-lag(a,1)+" + sum(49): 100, "min(" + sum(49) + ",1)": 99, "min(" + sum(49) + ",-1)": 100, "min(" + sum(50) + ",1)": 101,
		"if(" + sum(48) + ",-a,b)": 99, "if(" + sum(48) + ",-a,-b)": 100, "if(" + sum(48) + ",-a,--b)": 101, "((" + sum(50) + "))": 99, "((((" + sum(51) + "))))": 101,
		sum(100): 199, sum(200): 399, "(1)" + times(98, "+(1)"): 197, times(99, "(a)*") + "(a)": 199, "true" + times(49, " and a"): 99, "true" + times(50, " and a"): 101,
	} {
		got := parse(s)
		hold(t, s)
		switch {
		case n > 100 && !same(got, bad(api.ErrFull, 0)):
			t.Errorf("Parse(%q), of %d nodes: %d nodes, %d, %d", s, n, len(got.t), got.at, got.e)
		case n <= 100 && (len(got.t) != n || got.e != api.OK || got.at != 0):
			t.Errorf("Parse(%q), of %d nodes: %d nodes, %d, %d", s, n, len(got.t), got.at, got.e)
		}
	}
	// A fault behind more nodes is told ahead of how many they are.
	for _, n := range []int{51, 52, 100, 150} {
		s := sum(n)
		check(t, s, bad(api.ErrFull, 0))
		check(t, s+")", bad(api.ErrForm, len(s)))
		check(t, s+" 1", bad(api.ErrForm, len(s)+1))
		check(t, s+"+", bad(api.ErrForm, len(s)+1))
		check(t, s+"+ ", bad(api.ErrForm, len(s)+2))
		check(t, "("+s, bad(api.ErrForm, len(s)+1))
		check(t, s+"+lag(a,3661)", bad(api.ErrForm, len(s)+7))
		check(t, s+"+"+times(17, "(")+"1"+times(17, ")"), bad(api.ErrDepth, len(s)+17))
		check(t, s+"+"+times(17, "-")+"1", bad(api.ErrDepth, len(s)+17))
		check(t, s+"#", bad(api.ErrForm, len(s)))
		check(t, s+"+9223372036854775808", bad(api.ErrOver, len(s)+1))
		check(t, s+times(401-len(s), " "), bad(api.ErrLong, 0))
	}
	check(t, sum(200)+" ", bad(api.ErrFull, 0))
	check(t, sum(200)+"+", bad(api.ErrForm, 400))
	check(t, sum(201), bad(api.ErrLong, 0))
}

// TestEmpty: a text without words goes on nowhere.
func TestEmpty(t *testing.T) { // P15.1
	for _, n := range []int{0, 1, 2, 7, 399, 400} {
		check(t, times(n, " "), bad(api.ErrForm, n))
	}
	check(t, times(401, " "), bad(api.ErrLong, 0))
}

// TestBrokenOff: at the end of a text that breaks off, its length is told, with blanks behind too.
func TestBrokenOff(t *testing.T) { // P15.1
	ends := 0
	for _, s := range append(formulas(), "if(a or b, min(c, 2) * -d, round(e, 3)) <= orelse(f, lag(g, 7)) and not has(h)") {
		l, _, _ := lexer.Lex(s)
		for i, w := range l {
			for _, blanks := range []string{"", " ", "   "} {
				part := s[:w.At] + blanks
				got := parse(part)
				hold(t, part)
				if got.e == api.OK && !(i > 0 && got.at == 0) || got.e != api.OK && !same(got, bad(api.ErrForm, len(part))) {
					t.Errorf("Parse(%q) = %v", part, got)
				}
				if got.e != api.OK {
					ends++
				}
			}
		}
	}
	if ends < 500 {
		t.Errorf("%d texts alone break off", ends)
	}
	// This one is no expr ahead of its last word.
	s := "(if(a,min(b,2)*-d,round(e,3)))"
	l, _, _ := lexer.Lex(s)
	for _, w := range l {
		check(t, s[:w.At], bad(api.ErrForm, w.At))
		check(t, s[:w.At]+" ", bad(api.ErrForm, w.At+1))
		check(t, s[:w.At]+times(400-w.At, " "), bad(api.ErrForm, 400))
	}
}

// TestSideBySide: two expressions side by side are none; the place is where the second one begins.
func TestSideBySide(t *testing.T) { // P15.1
	l := []string{"a", "1", "2.5", "true", "false", "(a)", "(a + b)", "abs(a)", "has(a)", "lag(a, 1)", "round(a, 2)", "a + b", "a = b", "not a", "a or b", "if(a, b, c)"}
	for _, x := range l {
		for _, y := range append(l, ",", ")", "not", "min") {
			check(t, x+" "+y, bad(api.ErrForm, len(x)+1))
			check(t, x+"  "+y+" + 1", bad(api.ErrForm, len(x)+2))
			if y != ")" {
				check(t, "("+x+" "+y+")", bad(api.ErrForm, len(x)+2))
			}
		}
	}
	check(t, "a -b", fine(field(0, "a"), field(3, "b"), op(api.OpSub, 2, 0, 1)))
	check(t, "a b", bad(api.ErrForm, 2))
	check(t, "1a", bad(api.ErrForm, 1))
	check(t, "a1 2b", bad(api.ErrForm, 3))
	check(t, "1 2", bad(api.ErrForm, 2))
	check(t, "a, b", bad(api.ErrForm, 1))
}

// TestLexFirst: what layer 14 refuses is told with its place, wherever it stands, ahead of all else.
func TestLexFirst(t *testing.T) { // P15.1
	ahead := []string{"", "a", "a +", "a b", "(", ")", "a)", "not", "()", "lag(a,3661)", "a < b < c", "min(a)", times(17, "("), times(17, "-") + "a", times(60, "1+"), times(60, "1+") + "1", "true("}
	for _, x := range []struct {
		text string
		e    api.Errno
	}{
		{"#", api.ErrForm}, {"A", api.ErrForm}, {"\t", api.ErrForm}, {"\x00", api.ErrForm}, {"\xff", api.ErrForm}, {"\u00e9", api.ErrForm}, {".5", api.ErrForm}, {"01", api.ErrForm}, {"1.0", api.ErrForm},
		{"2.50", api.ErrForm}, {"abcdefghijklm", api.ErrForm}, {"9223372036854775808", api.ErrOver}, {"9223372036854775807.5", api.ErrOver}, {"99999999999999999999999", api.ErrForm},
	} {
		for _, y := range ahead {
			for _, behind := range []string{"", " ", " a", " + ", " )", " #", " 9223372036854775808", " " + times(17, "(")} {
				s := y + " " + x.text + behind
				check(t, s, bad(x.e, len(y)+1))
				check(t, s+times(401-len(s), " "), bad(api.ErrLong, 0))
			}
		}
	}
	check(t, times(400, "("), bad(api.ErrDepth, 16))
	check(t, times(400, "-"), bad(api.ErrDepth, 16))
	check(t, times(100, "not "), bad(api.ErrDepth, 64))
	check(t, times(401, "("), bad(api.ErrLong, 0))
	check(t, times(1<<20, "-"), bad(api.ErrLong, 0))
	check(t, times(1<<20, "("), bad(api.ErrLong, 0))
	check(t, "a"+times(399, " "), fine(field(0, "a")))
	check(t, times(399, " ")+"a", fine(field(399, "a")))
	check(t, "a"+times(400, " "), bad(api.ErrLong, 0))
}

// TestShort holds all texts of a few words, as long as they can go on, and those with one word more at which they can't.
func TestShort(t *testing.T) { // P15.1
	for _, x := range []struct {
		of string
		n  int
	}{
		{"a 1 1.5 10 3661 true or and not = < + - * ( ) , if min abs round has orelse lag", 4},
		{"a not - = and ( )", 6}, {"a or and = + * -", 7}, {"a - * ( ) +", 7}, {"a 1 min ( ) ,", 10}, {"a if ( ) , not", 10}, {"a 1 round lag ( ) , -", 9}, {"a 9 orelse has ( ) , +", 8}, {"a not = or", 9}, {"a - ( ) <> <=", 6},
	} {
		of := strings.Fields(x.of)
		c := newChart()
		var fines, faults int
		var from func(s string, left int)
		from = func(s string, left int) {
			for _, w := range of {
				more := s + w + " "
				got := parse(more)
				l, _, _ := lexer.Lex(w)
				goes := c.goOn(l[0])
				switch {
				case !goes && !same(got, bad(api.ErrForm, len(s))):
					t.Fatalf("Parse(%q) = %v; it can't go on at %d", more, got, len(s))
				case !goes:
					faults++
					continue
				case !same(got, want(more)) || (got.e == api.OK) != c.whole():
					t.Fatalf("Parse(%q) = %v, want %v", more, got, want(more))
				case got.e == api.OK && !ordered(got.t):
					t.Fatalf("Parse(%q) = %v: the nodes' order", more, got)
				case got.e == api.OK:
					fines++
				}
				if left > 1 {
					from(more, left-1)
				}
				c.back()
			}
		}
		from("", x.n)
		if fines < 50 || faults < 500 {
			t.Errorf("of %q %d texts alone are fine, %d stuck", x.of, fines, faults)
		}
	}
}

// mixer tells numbers below n, always the same ones.
func mixer() func(n int) int {
	r := uint64(88172645463325252)
	return func(n int) int {
		r ^= r << 13
		r ^= r >> 7
		r ^= r << 17
		return int(r % uint64(n))
	}
}

// TestWritten holds texts that are written together with their trees.
func TestWritten(t *testing.T) { // P15.1
	next := mixer()
	told := map[api.Errno]int{}
	for i := range 15000 {
		w := newWriter(next, next(next(160)+1), 1+i%6, false)
		if i%4 == 0 {
			w = newWriter(next, 60+next(120), 1, true)
		}
		w.expr()
		s := w.text.String()
		if got := parse(s); !same(got, w.told()) {
			t.Fatalf("Parse(%q) = %v, want %v", s, got, w.told())
		}
		if other := want(s); !same(other, w.told()) {
			t.Fatalf("of %q the stack tells %v, want %v", s, other, w.told())
		}
		told[w.told().e]++
	}
	if told[api.OK] < 5000 || told[api.ErrDepth] < 500 || told[api.ErrFull] < 200 || told[api.ErrLong] < 500 {
		t.Errorf("told: %v", told)
	}
}

// strays are words, and what is none.
func strays() []string {
	l := append(append(kept(), words(infixForms)...), "(", ")", ",", "a", "pay", "0", "1", "9", "10", "3660", "3661", "2.5", "not not", "()", "(a)", "-1", "#", "01", "A", "\t", "9223372036854775808", "abcdefghijklm", "")
	return append(l, times(16, "("), times(17, "-"))
}

// TestChanged holds formulas with a word put in, laid over or left out.
func TestChanged(t *testing.T) { // P15.1
	for _, s := range formulas() {
		l, _, _ := lexer.Lex(s)
		for i, w := range l {
			if i > 12 {
				break
			}
			behind := w.At + len(w.Text)
			for _, x := range strays() {
				hold(t, s[:w.At]+" "+x+" "+s[w.At:])
				hold(t, s[:w.At]+" "+x+" "+s[behind:])
				hold(t, s[:behind]+x+s[behind:])
			}
			if i > 0 {
				ahead := l[i-1]
				hold(t, s[:ahead.At]+" "+w.Text+" "+ahead.Text+" "+s[behind:])
			}
			hold(t, s[w.At:])
			hold(t, s[:behind]+" "+s)
		}
	}
}

// TestMixed holds words side by side, in any order.
func TestMixed(t *testing.T) { // P15.1
	next := mixer()
	l := strays()
	for range 15000 {
		var s strings.Builder
		for range next(10) {
			s.WriteString(l[next(len(l)-next(2)*12)])
			s.WriteString(" ")
		}
		hold(t, s.String())
	}
	// Written texts with one word of them changed.
	for i := range 3000 {
		w := newWriter(next, next(20), 1+i%4, false)
		w.expr()
		s := w.text.String()
		words, _, e := lexer.Lex(s)
		if e != api.OK {
			continue
		}
		x := words[next(len(words))]
		hold(t, s[:x.At]+" "+l[next(len(l))]+" "+s[x.At+len(x.Text):])
		hold(t, s[:x.At]+" "+s[x.At+len(x.Text):])
		hold(t, s[:x.At])
	}
}

// TestKept: what is told stands in memory of its own: bytes that change under a text that was handed in change none of its names. No call changes what it is handed.
func TestKept(t *testing.T) { // P15.1
	const text = "pay+lag(tax,7)*orelse(sum,2.5)-has(x)"
	handed := []byte(text)
	s := unsafe.String(&handed[0], len(handed))
	got := parse(s)
	if string(handed) != text {
		t.Errorf("what was handed in is %q", handed)
	}
	for i := range handed {
		handed[i] = '#'
	}
	if !same(got, want(text)) || !same(got, parse(text)) {
		t.Errorf("told: %v", got)
	}
	check(t, s, bad(api.ErrForm, 0))
	for _, x := range formulas() {
		handed := []byte("(" + x + "))")
		parse(unsafe.String(&handed[0], len(handed)))
		parse(unsafe.String(&handed[1], len(x)))
		if string(handed) != "("+x+"))" {
			t.Errorf("what was handed in is %q", handed)
		}
	}
}

// TestPart: what stands around a text in a longer one plays no part.
func TestPart(t *testing.T) { // P15.1
	s := "(a + bc12.5)"
	check(t, s[1:2], fine(field(0, "a")))
	check(t, s[1:6], fine(field(0, "a"), field(4, "b"), op(api.OpAdd, 2, 0, 1)))
	check(t, s[1:5], bad(api.ErrForm, 4))
	check(t, s[7:11], fine(number(0, 125, 1)))
	check(t, s[:2], bad(api.ErrForm, 2))
}

// TestWrittenOver: what is told may be written over, and changes nothing that is told later.
func TestWrittenOver(t *testing.T) { // P15.1
	for _, s := range formulas() {
		first, second := parse(s), parse(s)
		for i := range first.t {
			first.t[i] = api.Node{Op: 99, N: api.Dec{C: 1, S: 1}, Name: "x", K: 9, Kids: [3]int{7, 8, 9}, At: -5}
		}
		_ = append(first.t[:0], field(7, "y"), number(8, 3, 0))
		if third := parse(s); !same(third, want(s)) {
			t.Errorf("Parse(%q) = %v", s, third)
		}
		if !same(second, want(s)) {
			t.Errorf("Parse(%q), told ahead of that: %v", s, second)
		}
	}
}

// TestAgain: what is told hangs on no call ahead: asked once more, backwards, it is as it was.
func TestAgain(t *testing.T) { // P15.1
	l := append(append(formulas(), strays()...), times(17, "("), times(51, "1+")+"1", "a < b < c", "lag(a, 3661)", times(401, " "), "((((a", "not not -")
	var first []answer
	for _, s := range l {
		first = append(first, parse(s))
	}
	for i, s := range slices.Backward(l) {
		if !same(parse(s), first[i]) {
			t.Errorf("of %q: %v, then %v", s, first[i], parse(s))
		}
	}
}
