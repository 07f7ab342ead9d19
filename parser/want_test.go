package parser_test

import (
	"slices"
	"strings"

	"corrody/api"
	"corrody/lexer"
)

// What Parse should tell, found in other ways than its own: by a stack of what waits for its end; by the grammar's rules, all of them gone through side by side; by texts that are written together with their trees.

// callForm is a call's op, and what it asks between its parentheses: e an expression, f a field, p places, b days back.
type callForm struct {
	op   uint8
	asks string
}

var callForms = map[string]callForm{
	"if": {api.OpIf, "eee"}, "min": {api.OpMin, "ee"}, "max": {api.OpMax, "ee"}, "abs": {api.OpAbs, "e"}, "round": {api.OpRound, "ep"},
	"has": {api.OpHas, "f"}, "orelse": {api.OpOrElse, "fe"},
	"lag": {api.OpLag, "fb"}, "least": {api.OpLeast, "fb"}, "most": {api.OpMost, "fb"}, "any": {api.OpAny, "fb"}, "every": {api.OpEvery, "fb"},
}

// infixForm is the op of a word between two expressions, and how it binds: what binds more stands below.
type infixForm struct {
	op   uint8
	bind int
}

var infixForms = map[string]infixForm{
	"or": {api.OpOr, 1}, "and": {api.OpAnd, 2},
	"=": {api.OpEq, 4}, "<>": {api.OpNe, 4}, "<": {api.OpLt, 4}, "<=": {api.OpLe, 4}, ">": {api.OpGt, 4}, ">=": {api.OpGe, 4},
	"+": {api.OpAdd, 5}, "-": {api.OpSub, 5}, "*": {api.OpMul, 6}, "/": {api.OpDiv, 6},
}

const (
	bindParen = 0
	bindNot   = 3
	bindCmp   = 4
	bindMinus = 7
)

// words are the keys of forms, rising.
func words[V any](forms map[string]V) []string {
	var l []string
	for w := range forms {
		l = append(l, w)
	}
	slices.Sort(l)
	return l
}

// infixesOf are the words of each bind, and callWords those of calls; rising.
var infixesOf, callWords = func() (map[int][]string, []string) {
	m := map[int][]string{}
	for _, w := range words(infixForms) {
		m[infixForms[w].bind] = append(m[infixForms[w].bind], w)
	}
	return m, words(callForms)
}()

// wait is what waits on the stack for what is behind it. A parenthesis without a call has no op.
type wait struct {
	bind int
	node api.Node
	kids int
	asks string // of a parenthesis: what it asks behind what is read now
}

// machine puts a tree together from below. What it asks next: e an expression, f a field, p places, b days back, ( a call's parenthesis, c what may stand behind a call's field or number, o what may stand behind an expression.
type machine struct {
	asked byte
	waits []wait
	open  int
	done  []int // the places of expressions of which nobody has told yet what they are part of
	tree  api.Tree
}

// lay puts a node above the last ones that are done.
func (m *machine) lay(n api.Node, kids int) {
	from := len(m.done) - kids
	n.Kids = [3]int{-1, -1, -1}
	copy(n.Kids[:], m.done[from:])
	m.tree = append(m.tree, n)
	m.done = append(m.done[:from], len(m.tree)-1)
}

func (m *machine) top() wait {
	if len(m.waits) == 0 {
		return wait{bind: bindParen}
	}
	return m.waits[len(m.waits)-1]
}

func (m *machine) pop() wait {
	w := m.top()
	m.waits = m.waits[:len(m.waits)-1]
	return w
}

// close ends all that binds as much at least.
func (m *machine) close(bind int) {
	for m.top().bind >= bind {
		w := m.pop()
		if w.kids == 1 {
			m.open--
		}
		m.lay(w.node, w.kids)
	}
}

// opens is whether one more may be open; it is, then.
func (m *machine) opens() api.Errno {
	m.open++
	if m.open > 16 {
		return api.ErrDepth
	}
	return api.OK
}

// begin reads a word where an expression is asked.
func (m *machine) begin(w api.Tok) api.Errno {
	form, call := callForms[w.Text]
	n := api.Node{At: w.At}
	switch {
	case w.Text == "(":
		m.waits = append(m.waits, wait{})
		return m.opens()
	case w.Text == "not" && m.top().bind <= bindNot:
		n.Op = api.OpNot
		m.waits = append(m.waits, wait{bind: bindNot, node: n, kids: 1})
		return m.opens()
	case w.Text == "-":
		n.Op = api.OpNeg
		m.waits = append(m.waits, wait{bind: bindMinus, node: n, kids: 1})
		return m.opens()
	case call:
		n.Op = form.op
		m.waits = append(m.waits, wait{node: n, kids: strings.Count(form.asks, "e"), asks: form.asks})
		m.asked = '('
		return api.OK
	case w.Kind == 2:
		n.Op, n.N = api.OpNumber, w.N
	case w.Text == "true":
		n.Op = api.OpTrue
	case w.Text == "false":
		n.Op = api.OpFalse
	case lexer.Name(w.Text):
		n.Op, n.Name = api.OpField, w.Text
	default:
		return api.ErrForm
	}
	m.lay(n, 0)
	m.asked = 'o'
	return api.OK
}

// behind reads a word behind an expression.
func (m *machine) behind(w api.Tok) api.Errno {
	form, is := infixForms[w.Text]
	if !is {
		m.close(bindParen + 1)
		return m.between(w)
	}
	m.close(form.bind + 1)
	if form.bind == bindCmp && m.top().bind == bindCmp {
		return api.ErrForm
	}
	m.close(form.bind)
	m.waits = append(m.waits, wait{bind: form.bind, node: api.Node{Op: form.op, At: w.At}, kids: 2})
	m.asked = 'e'
	return api.OK
}

// between reads a comma, or a parenthesis that ends.
func (m *machine) between(w api.Tok) api.Errno {
	switch {
	case len(m.waits) == 0:
		return api.ErrForm
	case w.Text == "," && m.top().asks != "":
		m.asks()
		return api.OK
	case w.Text == ")" && m.top().asks == "":
		p := m.pop()
		m.open--
		m.asked = 'o'
		if p.node.Op != 0 {
			m.lay(p.node, p.kids)
		}
		return api.OK
	}
	return api.ErrForm
}

// asks goes on to what the call asks next.
func (m *machine) asks() {
	top := &m.waits[len(m.waits)-1]
	m.asked, top.asks = top.asks[0], top.asks[1:]
}

// part reads a call's field or number.
func (m *machine) part(w api.Tok) api.Errno {
	n := &m.waits[len(m.waits)-1].node
	most := map[byte]int64{'p': 9, 'b': 3660, 'f': -1}[m.asked]
	switch {
	case m.asked == 'f' && lexer.Name(w.Text):
		n.Name = w.Text
	case w.Kind == 2 && w.N.S == 0 && w.N.C <= most:
		n.K = int(w.N.C)
	default:
		return api.ErrForm
	}
	m.asked = 'c'
	return api.OK
}

func (m *machine) word(w api.Tok) api.Errno {
	switch m.asked {
	case 'e':
		return m.begin(w)
	case 'o':
		return m.behind(w)
	case 'c':
		return m.between(w)
	case '(':
		if w.Text != "(" {
			return api.ErrForm
		}
		m.asks()
		return m.opens()
	}
	return m.part(w)
}

// want is what Parse should tell of a text.
func want(s string) answer {
	l, at, e := lexer.Lex(s)
	if e != api.OK {
		return bad(e, at)
	}
	m := machine{asked: 'e'}
	for _, w := range l {
		if e := m.word(w); e != api.OK {
			return bad(e, w.At)
		}
	}
	if m.asked == 'o' {
		m.close(bindParen + 1)
	}
	if m.asked != 'o' || len(m.waits) > 0 {
		return bad(api.ErrForm, len(s))
	}
	if len(m.tree) > 100 {
		return bad(api.ErrFull, 0)
	}
	return fine(m.tree...)
}

// rule is one way to put together what its name stands for.
type rule struct {
	name string
	of   []string
}

// grammar are the chapter's rules, each { } as one that begins with its own name.
var grammar = func() []rule {
	var l []rule
	for _, line := range strings.Split(strings.TrimSpace(`
expr = and
expr = expr or and
and = not
and = and and_ not
not = not_ not
not = cmp
cmp = sum
cmp = sum = sum
cmp = sum <> sum
cmp = sum < sum
cmp = sum <= sum
cmp = sum > sum
cmp = sum >= sum
sum = prod
sum = sum + prod
sum = sum - prod
prod = minus
prod = prod * minus
prod = prod / minus
minus = - minus
minus = atom
atom = number
atom = true
atom = false
atom = field
atom = ( expr )
atom = if ( expr , expr , expr )
atom = min ( expr , expr )
atom = max ( expr , expr )
atom = abs ( expr )
atom = round ( expr , places )
atom = has ( field )
atom = orelse ( field , expr )
atom = lag ( field , back )
atom = least ( field , back )
atom = most ( field , back )
atom = any ( field , back )
atom = every ( field , back )
`), "\n") {
		l = append(l, rule{strings.Fields(line)[0], strings.Fields(line)[2:]})
	}
	return l
}()

// ways are the places of the rules of each name.
var ways = func() map[string][]int {
	m := map[string][]int{}
	for i, r := range grammar {
		m[r.name] = append(m[r.name], i)
	}
	return m
}()

// fits is whether a word may stand for what a rule asks. The words "and" and "not", which are rules' names too, have a stroke behind them there.
func fits(asked string, w api.Tok) bool {
	switch asked {
	case "number":
		return w.Kind == 2
	case "places":
		return w.Kind == 2 && slices.Contains([]string{"0", "1", "2", "3", "4", "5", "6", "7", "8", "9"}, w.Text)
	case "back":
		return w.Kind == 2 && w.N.S == 0 && w.N.C <= 3660
	case "field":
		return lexer.Name(w.Text)
	}
	return w.Text == strings.TrimSuffix(asked, "_")
}

// state is a rule that is gone through: how many of its parts are read, and behind which word it began.
type state struct{ rule, read, from int }

// chart are all states behind each word: what can be read so far.
type chart struct{ states [][]state }

func newChart() *chart {
	c := &chart{}
	var l []state
	for _, i := range ways["expr"] {
		l = append(l, state{rule: i})
	}
	c.fill(l)
	return c
}

// asked is what a state asks next; nothing, if it is at its end.
func (x state) asked() string {
	if of := grammar[x.rule].of; x.read < len(of) {
		return of[x.read]
	}
	return ""
}

// fill puts states behind a word, and all that follow of them.
func (c *chart) fill(l []state) {
	here := len(c.states)
	c.states = append(c.states, nil)
	seen := map[state]bool{}
	add := func(x state) {
		if !seen[x] {
			seen[x] = true
			c.states[here] = append(c.states[here], x)
		}
	}
	for _, x := range l {
		add(x)
	}
	for i := 0; i < len(c.states[here]); i++ {
		x := c.states[here][i]
		asked := x.asked()
		for _, r := range ways[asked] {
			add(state{rule: r, from: here})
		}
		if asked != "" {
			continue
		}
		for _, y := range c.states[x.from] {
			if y.asked() == grammar[x.rule].name {
				add(state{y.rule, y.read + 1, y.from})
			}
		}
	}
}

// goOn is whether the text can go on with a word; if so, it does.
func (c *chart) goOn(w api.Tok) bool {
	var l []state
	for _, x := range c.states[len(c.states)-1] {
		if asked := x.asked(); asked != "" && len(ways[asked]) == 0 && fits(asked, w) {
			l = append(l, state{x.rule, x.read + 1, x.from})
		}
	}
	if len(l) == 0 {
		return false
	}
	c.fill(l)
	return true
}

// back forgets the last word.
func (c *chart) back() { c.states = c.states[:len(c.states)-1] }

// whole is whether all that was read is an expr.
func (c *chart) whole() bool {
	for _, x := range c.states[len(c.states)-1] {
		if x.from == 0 && grammar[x.rule].name == "expr" && x.asked() == "" {
			return true
		}
	}
	return false
}

// stuck is where words can't go on as an expr, and whether they can't: the text's length, if it is its end.
func stuck(s string, l []api.Tok) (int, bool) {
	c := newChart()
	for _, w := range l {
		if !c.goOn(w) {
			return w.At, true
		}
	}
	return len(s), !c.whole()
}

// writer writes a text together with its tree, word by word.
type writer struct {
	next func(n int) int
	text strings.Builder
	open int
	deep int // where too much was open first; -1, if it never was
	left int // how many nodes may still be written before what is written is kept short
	dig  int // how often, of eight times, something is opened where it may be
	tree api.Tree

	tight bool // names and numbers are short, and blanks stand just where they must
}

func newWriter(next func(n int) int, left, dig int, tight bool) *writer {
	return &writer{next: next, left: left, dig: dig, tight: tight, deep: -1}
}

func isLetterOrDigit(b byte) bool { return b >= '0' && b <= '9' || b >= 'a' && b <= 'z' }

// word writes a word, and tells where it stands.
func (w *writer) word(s string) int {
	ahead := w.text.String()
	touch := ahead != "" && isLetterOrDigit(ahead[len(ahead)-1]) && isLetterOrDigit(s[0])
	switch {
	case touch && w.tight:
		w.text.WriteString(" ")
	case touch, w.next(3) == 0 && !w.tight:
		w.text.WriteString(strings.Repeat(" ", 1+w.next(2)*w.next(2)))
	}
	w.text.WriteString(s)
	return w.text.Len() - len(s)
}

// opener writes a word that opens something.
func (w *writer) opener(s string) int {
	at := w.word(s)
	w.open++
	if w.open > 16 && w.deep < 0 {
		w.deep = at
	}
	return at
}

func (w *writer) end() {
	w.word(")")
	w.open--
}

// lay puts a node above others.
func (w *writer) lay(n api.Node, kids ...int) int {
	n.Kids = [3]int{-1, -1, -1}
	copy(n.Kids[:], kids)
	w.tree = append(w.tree, n)
	w.left--
	return len(w.tree) - 1
}

// one is one of some things.
func one[V any](w *writer, l ...V) V { return l[w.next(len(l))] }

func (w *writer) fieldName() string {
	if w.tight {
		return "a"
	}
	return one(w, "a", "b", "pay", "x9", "orr", "nota", "truex", "abcdefghijkl")
}

// infix writes two expressions with a word of a level between; first, if not, one of the level that binds more.
func (w *writer) infix(bind int, below, right func() int) int {
	place := below()
	often := 1
	if w.tight {
		often = 2
	}
	for w.left > 0 && w.next(4) < often {
		x := one(w, infixesOf[bind]...)
		n := api.Node{Op: infixForms[x].op, At: w.word(x)}
		place = w.lay(n, place, right())
		if bind == bindCmp {
			break
		}
	}
	return place
}

// prefix writes a word ahead of an expression of its own level, or one of the level that binds more.
func (w *writer) prefix(word string, op uint8, below func() int) int {
	if w.left <= 0 || w.next(8) >= w.dig {
		return below()
	}
	n := api.Node{Op: op, At: w.opener(word)}
	kid := w.prefix(word, op, below)
	w.open--
	return w.lay(n, kid)
}

func (w *writer) expr() int { return w.infix(1, w.and, w.and) }
func (w *writer) and() int  { return w.infix(2, w.not, w.not) }
func (w *writer) not() int  { return w.prefix("not", api.OpNot, w.cmp) }
func (w *writer) cmp() int  { return w.infix(bindCmp, w.sum, w.sum) }
func (w *writer) sum() int  { return w.infix(5, w.prod, w.prod) }
func (w *writer) prod() int { return w.infix(6, w.minus, w.minus) }
func (w *writer) minus() int {
	return w.prefix("-", api.OpNeg, w.atom)
}

func (w *writer) atom() int {
	n := api.Node{}
	k := w.next(6)
	if w.tight {
		k = 5
	}
	switch {
	case w.left > 0 && w.next(8) < w.dig:
		w.opener("(")
		place := w.expr()
		w.end()
		return place
	case w.left > 0 && w.next(4) == 0:
		return w.call(one(w, callWords...))
	case k == 0:
		n.Op, n.At = api.OpTrue, w.word("true")
	case k == 1:
		n.Op, n.At = api.OpFalse, w.word("false")
	case k == 2:
		x := one(w, api.Dec{}, api.Dec{C: 7}, api.Dec{C: 25, S: 1}, api.Dec{C: 9223372036854775807})
		text := map[int64]string{0: "0", 7: "7", 25: "2.5", 9223372036854775807: "9223372036854775807"}[x.C]
		n.Op, n.N, n.At = api.OpNumber, x, w.word(text)
	default:
		n.Op, n.Name = api.OpField, w.fieldName()
		n.At = w.word(n.Name)
	}
	return w.lay(n)
}

func (w *writer) call(word string) int {
	form := callForms[word]
	n := api.Node{Op: form.op, At: w.word(word)}
	w.opener("(")
	var kids []int
	for i, ask := range form.asks {
		if i > 0 {
			w.word(",")
		}
		switch ask {
		case 'e':
			kids = append(kids, w.expr())
		case 'f':
			n.Name = w.fieldName()
			w.word(n.Name)
		case 'p':
			n.K = w.next(10)
			w.word(string(rune('0' + n.K)))
		case 'b':
			text := one(w, "0", "1", "30", "3659", "3660")
			n.K = map[string]int{"0": 0, "1": 1, "30": 30, "3659": 3659, "3660": 3660}[text]
			w.word(text)
		}
	}
	w.end()
	return w.lay(n, kids...)
}

// told is what Parse should tell of what was written.
func (w *writer) told() answer {
	switch {
	case w.text.Len() > 400:
		return bad(api.ErrLong, 0)
	case w.deep >= 0:
		return bad(api.ErrDepth, w.deep)
	case len(w.tree) > 100:
		return bad(api.ErrFull, 0)
	}
	return fine(w.tree...)
}
