package printer_test

import (
	"slices"
	"strconv"
	"strings"

	"corrody/api"
	"corrody/dectext"
	"corrody/lexer"
	"corrody/parser"
)

// What Text, May and Same should tell, found in other ways than their own: each node held against what its op may have, and a stack of what is written so far; all parentheses that may be, taken away pair by pair; each part of two nodes for itself.

// opForm is what an op's node has: its words' kind (i between two, p ahead of one, c a call, a an atom), how it binds, how many expressions, and whether a name, a number, a K with a greatest worth (-1: none).
type opForm struct {
	op         uint8
	word       string
	kind       byte
	bind, kids int
	name, num  bool
	most       int
}

const (
	bindAll = 9 // an atom, a call
	bindNot = 3
	bindCmp = 4
	bindNeg = 7
)

// opForms are the forms of all ops.
var opForms = []opForm{
	{api.OpNumber, "", 'a', bindAll, 0, false, true, -1},
	{api.OpTrue, "true", 'a', bindAll, 0, false, false, -1},
	{api.OpFalse, "false", 'a', bindAll, 0, false, false, -1},
	{api.OpField, "", 'a', bindAll, 0, true, false, -1},
	{api.OpOr, "or", 'i', 1, 2, false, false, -1},
	{api.OpAnd, "and", 'i', 2, 2, false, false, -1},
	{api.OpNot, "not ", 'p', bindNot, 1, false, false, -1},
	{api.OpEq, "=", 'i', bindCmp, 2, false, false, -1},
	{api.OpNe, "<>", 'i', bindCmp, 2, false, false, -1},
	{api.OpLt, "<", 'i', bindCmp, 2, false, false, -1},
	{api.OpLe, "<=", 'i', bindCmp, 2, false, false, -1},
	{api.OpGt, ">", 'i', bindCmp, 2, false, false, -1},
	{api.OpGe, ">=", 'i', bindCmp, 2, false, false, -1},
	{api.OpAdd, "+", 'i', 5, 2, false, false, -1},
	{api.OpSub, "-", 'i', 5, 2, false, false, -1},
	{api.OpMul, "*", 'i', 6, 2, false, false, -1},
	{api.OpDiv, "/", 'i', 6, 2, false, false, -1},
	{api.OpNeg, "-", 'p', bindNeg, 1, false, false, -1},
	{api.OpIf, "if", 'c', bindAll, 3, false, false, -1},
	{api.OpMin, "min", 'c', bindAll, 2, false, false, -1},
	{api.OpMax, "max", 'c', bindAll, 2, false, false, -1},
	{api.OpAbs, "abs", 'c', bindAll, 1, false, false, -1},
	{api.OpRound, "round", 'c', bindAll, 1, false, false, 9},
	{api.OpHas, "has", 'c', bindAll, 0, true, false, -1},
	{api.OpOrElse, "orelse", 'c', bindAll, 1, true, false, -1},
	{api.OpLag, "lag", 'c', bindAll, 0, true, false, 3660},
	{api.OpLeast, "least", 'c', bindAll, 0, true, false, 3660},
	{api.OpMost, "most", 'c', bindAll, 0, true, false, 3660},
	{api.OpAny, "any", 'c', bindAll, 0, true, false, 3660},
	{api.OpEvery, "every", 'c', bindAll, 0, true, false, 3660},
}

// opOf is an op's form, and whether there is one.
func opOf(op uint8) (opForm, bool) {
	i := slices.IndexFunc(opForms, func(f opForm) bool { return f.op == op })
	if i < 0 {
		return opForm{}, false
	}
	return opForms[i], true
}

// fits is whether a node has just what its op may have, its kids' places but for the order aside.
func fits(n api.Node) bool {
	f, is := opOf(n.Op)
	if !is || f.name != (n.Name != "") || f.name && !lexer.Name(n.Name) {
		return false
	}
	for i, kid := range n.Kids {
		if i < f.kids != (kid >= 0) || kid < -1 {
			return false
		}
	}
	canonical := n.N.S >= 0 && n.N.S <= 9 && (n.N.S == 0 || n.N.C%10 != 0)
	if f.num && (n.N.C < 0 || !canonical) || !f.num && n.N != (api.Dec{}) {
		return false
	}
	return n.K == 0 || n.K > 0 && n.K <= f.most
}

// inOrder is whether the nodes below each one, gone down from the last one, are met at their places, each once.
func inOrder(t api.Tree) bool {
	met := 0
	var down func(place int) bool
	down = func(place int) bool {
		for _, kid := range t[place].Kids {
			if kid >= place || kid >= 0 && !down(kid) {
				return false
			}
		}
		met++
		return place == met-1
	}
	return len(t) > 0 && down(len(t)-1) && met == len(t)
}

// written is a text that is put together, how what is outermost in it binds, and how many levels are open in it at most.
type written struct {
	text       string
	bind, deep int
}

// within is a text as it stands where something is asked that binds so much at least.
func (w written) within(bind int) written {
	if w.bind >= bind {
		return w
	}
	return written{"(" + w.text + ")", bindAll, w.deep + 1}
}

// join is an op's node over what stands below it.
func join(n api.Node, below []written) written {
	f, _ := opOf(n.Op)
	switch f.kind {
	case 'i':
		left, right := below[0].within(f.bind), below[1].within(f.bind+1)
		if f.bind == bindCmp {
			left = below[0].within(f.bind + 1)
		}
		return written{left.text + " " + f.word + " " + right.text, f.bind, max(left.deep, right.deep)}
	case 'p':
		of := below[0].within(f.bind)
		return written{f.word + of.text, f.bind, of.deep + 1}
	case 'a':
		return written{f.word + n.Name + map[bool]string{true: dectext.Text(n.N)}[f.num], f.bind, 0}
	}
	w := written{bind: f.bind, deep: 1}
	var l []string
	if f.name {
		l = append(l, n.Name)
	}
	for _, of := range below {
		l = append(l, of.text)
		w.deep = max(w.deep, of.deep+1)
	}
	if f.most >= 0 {
		l = append(l, strconv.Itoa(n.K))
	}
	w.text = f.word + "(" + strings.Join(l, ", ") + ")"
	return w
}

// whole is a tree's text, of whatever length and depth, written from its first node on.
func whole(t api.Tree) written {
	var l []written
	for _, n := range t {
		f, _ := opOf(n.Op)
		from := len(l) - f.kids
		w := join(n, l[from:])
		l = append(l[:from], w)
	}
	return l[0]
}

// wanted is what Text should tell of a tree, and May.
func wanted(t api.Tree) (string, bool) {
	for _, n := range t {
		if !fits(n) {
			return "", false
		}
	}
	if len(t) > 100 || !inOrder(t) {
		return "", false
	}
	w := whole(t)
	if len(w.text) > 400 || w.deep > 16 {
		return "", false
	}
	return w.text, true
}

// alike is whether two trees are the same, but for places: each part for itself.
func alike(a, b api.Tree) bool {
	if len(a) != len(b) {
		return false
	}
	for i := range a {
		x, y := a[i], b[i]
		if x.Op != y.Op || x.N.C != y.N.C || x.N.S != y.N.S || x.Name != y.Name || x.K != y.K {
			return false
		}
		for j := range x.Kids {
			if x.Kids[j] != y.Kids[j] {
				return false
			}
		}
	}
	return true
}

// full is a tree's text with parentheses around all that stands below something, or is the whole, and is no atom; and the places of those that are open.
func full(t api.Tree) string {
	var l []string
	for _, n := range t {
		f, _ := opOf(n.Op)
		from := len(l) - f.kids
		below := make([]written, f.kids)
		for i, s := range l[from:] {
			below[i] = written{text: s, bind: bindAll}
		}
		s := join(n, below).text
		if f.kind != 'a' {
			s = "(" + s + ")"
		}
		l = append(l[:from], s)
	}
	return l[0]
}

// closing is where the parenthesis ends that is open at a place.
func closing(s string, open int) int {
	deep := 0
	for i := open; i < len(s); i++ {
		switch s[i] {
		case '(':
			deep++
		case ')':
			deep--
		}
		if deep == 0 {
			return i
		}
	}
	return -1
}

// bare is a text without those of its parentheses that are not wanted: each pair is taken away, if what is left is read as the same tree.
func bare(t api.Tree, s string) string {
	for i := len(s) - 1; i >= 0; i-- {
		if s[i] != '(' {
			continue
		}
		end := closing(s, i)
		less := s[:i] + s[i+1:end] + s[end+1:]
		if back, _, e := parser.Parse(less); e == api.OK && alike(t, back) {
			s = less
		}
	}
	return s
}

// mixer makes numbers that look like any, each run the same ones.
type mixer struct{ x uint64 }

func (m *mixer) below(n int) int {
	m.x ^= m.x << 13
	m.x ^= m.x >> 7
	m.x ^= m.x << 17
	return int(m.x >> 11 % uint64(n))
}

// one is one of some things.
func one[T any](m *mixer, l ...T) T { return l[m.below(len(l))] }

// filled is a node of an op, with all that it may have but kids.
func (m *mixer) filled(op uint8) api.Node {
	f, _ := opOf(op)
	n := api.Node{Op: op, Kids: [3]int{-1, -1, -1}, At: m.below(500)}
	if f.name {
		n.Name = one(m, "a", "b", "c9", "abcdefghijkl", "z", "ifs", "nota")
	}
	if f.num {
		n.N = one(m, api.Dec{}, api.Dec{C: 1}, api.Dec{C: 100}, api.Dec{C: 25, S: 1}, api.Dec{C: 1, S: 9}, api.Dec{C: 1<<63 - 1}, api.Dec{C: 1<<63 - 1, S: 9}, api.Dec{C: 7, S: 3})
	}
	if f.most >= 0 {
		n.K = one(m, 0, 1, m.below(f.most+1), f.most)
	}
	return n
}

// grown is a tree of about so many nodes, out of some ops.
func (m *mixer) grown(nodes int, ops []uint8) api.Tree {
	var t api.Tree
	var loose []int
	for len(t) < nodes || len(loose) > 1 {
		op := one(m, ops...)
		f, _ := opOf(op)
		if len(t) >= nodes {
			op = one(m, api.OpOr, api.OpAnd, api.OpLt, api.OpSub, api.OpDiv, api.OpMin)
			f, _ = opOf(op)
		}
		if f.kids > len(loose) {
			op = one(m, api.OpField, api.OpNumber, api.OpTrue, api.OpFalse, api.OpLag, api.OpHas)
			f, _ = opOf(op)
		}
		n := m.filled(op)
		from := len(loose) - f.kids
		copy(n.Kids[:], loose[from:])
		loose = append(loose[:from], len(t))
		t = append(t, n)
	}
	return t
}

// allOps are the ops that there are.
func allOps() []uint8 {
	var l []uint8
	for _, f := range opForms {
		l = append(l, f.op)
	}
	return l
}
