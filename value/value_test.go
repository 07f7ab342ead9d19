package value_test

import (
	"math"
	"math/big"
	"regexp"
	"slices"
	"strings"
	"testing"

	"corrody/api"
	"corrody/dectext"
	"corrody/value"
)

const (
	most  = math.MaxInt64
	least = math.MinInt64
)

// answer is what Num, Bad and Parse tell.
type answer struct {
	v api.Value
	e api.Errno
}

// fine is an answer without an error.
func fine(v api.Value) answer { return answer{v: v} }

// refused is an answer with an error, and a zero value beside it.
func refused(e api.Errno) answer { return answer{e: e} }

func num(x api.Dec) answer {
	v, e := value.Num(x)
	return answer{v, e}
}

func bad(e api.Errno) answer {
	v, err := value.Bad(e)
	return answer{v, err}
}

func parse(s string) answer {
	v, e := value.Parse(s)
	return answer{v, e}
}

// number is the value of a number, as the chapter lays it out.
func number(c int64, s int) api.Value {
	return api.Value{Kind: 1, N: api.Dec{C: c, S: s}}
}

// broken is the value of an error, as the chapter lays it out.
func broken(e api.Errno) api.Value { return api.Value{Kind: 4, E: e} }

// texts are values that may be, by their texts.
func texts() map[string]api.Value {
	return map[string]api.Value{
		"absent":                {},
		"true":                  {Kind: 2},
		"false":                 {Kind: 3},
		"over":                  broken(api.ErrOver),
		"div":                   broken(api.ErrDiv),
		"missing":               broken(api.ErrMissing),
		"0":                     number(0, 0),
		"7":                     number(7, 0),
		"-7":                    number(-7, 0),
		"10":                    number(10, 0),
		"-100":                  number(-100, 0),
		"0.5":                   number(5, 1),
		"-0.5":                  number(-5, 1),
		"1.5":                   number(15, 1),
		"-1.5":                  number(-15, 1),
		"10.01":                 number(1001, 2),
		"0.125":                 number(125, 3),
		"0.000000001":           number(1, 9),
		"-0.000000001":          number(-1, 9),
		"9223372036854775807":   number(most, 0),
		"-9223372036854775808":  number(least, 0),
		"922337203685477580.7":  number(most, 1),
		"-922337203685477580.8": number(least, 1),
		"9223372036.854775807":  number(most, 9),
		"-9223372036.854775808": number(least, 9),
	}
}

// cs are numbers at the edges and ordinary ones.
func cs() []int64 {
	l := []int64{0, most, most - 1, most - 7, least, least + 1, least + 8}
	for n := int64(1); n <= 1e17; n *= 10 {
		for _, c := range []int64{1, 5, 9, 10, 15, 90} {
			l = append(l, c*n, -c*n, c*n+1, -c*n-1)
		}
	}
	return l
}

// decs are Decs at all scales, canonical or not.
func decs() []api.Dec {
	var l []api.Dec
	for s := range api.MaxScale + 1 {
		for _, c := range cs() {
			l = append(l, api.Dec{C: c, S: s})
		}
	}
	return l
}

// none are what is no Dec.
func none() []api.Dec {
	var l []api.Dec
	for _, s := range []int{-1, -9, -10, 10, 11, 18, 19, 256, 265, math.MaxInt32, math.MinInt32, math.MaxInt, math.MinInt, 1 << 32} {
		for _, c := range []int64{0, 1, -1, 10, -100, most, least} {
			l = append(l, api.Dec{C: c, S: s})
		}
	}
	return l
}

// errnos are all errors, and what is none.
func errnos() []api.Errno {
	l := []api.Errno{-1, -11, -12, -13, 17, 255, 256, 256 + 11, 256 + 12, 256 + 13, math.MaxInt, math.MinInt}
	for e := range api.ErrState + 1 {
		l = append(l, e)
	}
	return l
}

// isBad is whether Bad may have an error.
func isBad(e api.Errno) bool { return e == 11 || e == 12 || e == 13 }

// isCanonical is whether x is a Dec, and canonical, told step by step: no place can be left out.
func isCanonical(x api.Dec) bool {
	return x.S == 0 || x.S > 0 && x.S <= 9 && x.C-x.C/10*10 != 0
}

// may is whether a value may be, kind by kind.
func may(v api.Value) bool {
	switch v.Kind {
	case 0, 2, 3:
		return v.N.C == 0 && v.N.S == 0 && v.E == 0
	case 1:
		return isCanonical(v.N) && v.E == 0
	case 4:
		return v.N.C == 0 && v.N.S == 0 && isBad(v.E)
	}
	return false
}

// values are all of some kinds, numbers and errors, each with each; few of them may be.
func values() []api.Value {
	ns := []api.Dec{
		{}, {S: 1}, {S: 9}, {S: 10}, {S: -1}, {C: 1}, {C: -1}, {C: 10}, {C: -20}, {C: 10, S: 1}, {C: -50, S: 1}, {C: 100, S: 3},
		{C: 15, S: 1}, {C: -15, S: 1}, {C: 1, S: 9}, {C: 1, S: 10}, {C: 1, S: -1}, {C: 1, S: math.MaxInt}, {C: 1, S: math.MinInt},
		{C: most}, {C: least}, {C: most, S: 1}, {C: least, S: 1}, {C: most, S: 9}, {C: least, S: 9}, {C: most, S: 10}, {C: least, S: -1},
	}
	var l []api.Value
	for kind := range 256 {
		for _, n := range ns {
			for _, e := range errnos() {
				l = append(l, api.Value{Kind: uint8(kind), N: n, E: e})
			}
		}
	}
	return l
}

// written is what the text of a Dec should be, by exact fractions: as few places as it has.
func written(x api.Dec) string {
	for x.S > 0 && x.C%10 == 0 {
		x.C /= 10
		x.S--
	}
	unit := new(big.Int).Exp(big.NewInt(10), big.NewInt(int64(x.S)), nil)
	return new(big.Rat).SetFrac(big.NewInt(x.C), unit).FloatString(x.S)
}

var form = regexp.MustCompile(`^-?(0|[1-9][0-9]*)(\.[0-9]{0,8}[1-9])?$`)

// want is what Parse should tell of a text, by the words, a pattern of numbers' form, and whole numbers without a bound.
func want(s string) answer {
	switch s {
	case "absent":
		return fine(api.Value{})
	case "true":
		return fine(api.Value{Kind: 2})
	case "false":
		return fine(api.Value{Kind: 3})
	case "over":
		return fine(broken(11))
	case "div":
		return fine(broken(12))
	case "missing":
		return fine(broken(13))
	}
	if !form.MatchString(s) || s == "-0" {
		return refused(api.ErrForm)
	}
	_, places, _ := strings.Cut(s, ".")
	c, _ := new(big.Int).SetString(strings.ReplaceAll(s, ".", ""), 10)
	if !c.IsInt64() {
		return refused(api.ErrForm)
	}
	return fine(number(c.Int64(), len(places)))
}

// hold holds what Parse tells of a text against what it should; and of a value that is read, that it may be, and its text.
func hold(t *testing.T, s string) {
	t.Helper()
	got := parse(s)
	if got != want(s) {
		t.Fatalf("Parse(%q) = %v, want %v", s, got, want(s))
	}
	if got.e != api.OK {
		return
	}
	if !value.May(got.v) || value.Text(got.v) != s {
		t.Fatalf("Parse(%q) = %v; May %v, Text %q", s, got.v, value.May(got.v), value.Text(got.v))
	}
}

func TestMay(t *testing.T) { // P10.1
	for s, v := range texts() {
		if !value.May(v) {
			t.Errorf("May(%v) = false: it is %s", v, s)
		}
	}
	for _, v := range []api.Value{
		// Absent, True, False have neither a number nor an error.
		{N: api.Dec{C: 1}}, {N: api.Dec{S: 1}}, {N: api.Dec{C: 10, S: 1}}, {E: api.ErrNil}, {E: api.ErrOver}, {E: -1},
		{Kind: 2, N: api.Dec{C: 1}}, {Kind: 2, N: api.Dec{S: 9}}, {Kind: 2, E: api.ErrDiv}, {Kind: 2, E: api.ErrState},
		{Kind: 3, N: api.Dec{C: -1}}, {Kind: 3, N: api.Dec{S: 10}}, {Kind: 3, E: api.ErrMissing}, {Kind: 3, E: api.ErrArg},
		// Num has no error, and its number is canonical.
		{Kind: 1, E: api.ErrNil}, {Kind: 1, E: api.ErrOver}, {Kind: 1, N: api.Dec{C: 5, S: 1}, E: api.ErrMissing},
		number(0, 1), number(0, 9), number(10, 1), number(-50, 1), number(100, 3), number(least+8, 9),
		number(0, -1), number(0, 10), number(1, -1), number(1, 10), number(most, 10), number(least, -1), number(7, math.MaxInt), number(7, math.MinInt),
		// Bad has one of three errors, and no number.
		{Kind: 4}, broken(api.ErrNil), broken(api.ErrDepth), broken(api.ErrLocked), broken(api.ErrState), broken(17), broken(-11), broken(math.MaxInt), broken(math.MinInt),
		{Kind: 4, N: api.Dec{C: 1}, E: api.ErrOver}, {Kind: 4, N: api.Dec{S: 1}, E: api.ErrDiv}, {Kind: 4, N: api.Dec{C: 1}},
		// There are five kinds.
		{Kind: 5}, {Kind: 6}, {Kind: 128}, {Kind: 255}, {Kind: 5, N: api.Dec{C: 1}}, {Kind: 255, E: api.ErrOver},
	} {
		if value.May(v) {
			t.Errorf("May(%v) = true", v)
		}
	}
}

// TestMayAll holds all kinds, each with each of some numbers and errors, against the chapter's words.
func TestMayAll(t *testing.T) { // P10.1
	for _, v := range values() {
		if got := value.May(v); got != may(v) {
			t.Errorf("May(%v) = %v", v, got)
		}
	}
}

// TestMayNumbers: a number may be just if it is canonical, whatever its size.
func TestMayNumbers(t *testing.T) { // P10.1
	for _, x := range append(decs(), none()...) {
		v := api.Value{Kind: 1, N: x}
		if got := value.May(v); got != isCanonical(x) {
			t.Errorf("May(%v) = %v", v, got)
		}
	}
}

func TestNum(t *testing.T) { // P10.1
	for _, c := range []struct {
		x    api.Dec
		want api.Value
	}{
		{api.Dec{}, number(0, 0)},
		{api.Dec{S: 1}, number(0, 0)},
		{api.Dec{S: 9}, number(0, 0)},
		{api.Dec{C: 7}, number(7, 0)},
		{api.Dec{C: 10}, number(10, 0)},
		{api.Dec{C: -15, S: 1}, number(-15, 1)},
		{api.Dec{C: 50, S: 1}, number(5, 0)},
		{api.Dec{C: -50, S: 1}, number(-5, 0)},
		{api.Dec{C: 100, S: 3}, number(1, 1)},
		{api.Dec{C: 1e9, S: 9}, number(1, 0)},
		{api.Dec{C: 1, S: 9}, number(1, 9)},
		{api.Dec{C: most}, number(most, 0)},
		{api.Dec{C: least}, number(least, 0)},
		{api.Dec{C: most, S: 9}, number(most, 9)},
		{api.Dec{C: least, S: 9}, number(least, 9)},
		{api.Dec{C: least + 8, S: 9}, number(-92233720368547758, 7)},
	} {
		if got := num(c.x); got != fine(c.want) {
			t.Errorf("Num(%v) = %v, want %v", c.x, got, c.want)
		}
	}
}

// TestNumAll: of all Decs Num tells a number of the same text that may be, and the same of all that are of one worth.
func TestNumAll(t *testing.T) { // P10.1
	for _, x := range decs() {
		got := num(x)
		if got.e != api.OK || got.v.Kind != 1 || !value.May(got.v) {
			t.Fatalf("Num(%v) = %v", x, got)
		}
		if isCanonical(x) && got.v.N != x {
			t.Fatalf("Num(%v) = %v, though it is canonical", x, got)
		}
		if s := value.Text(got.v); s != written(x) {
			t.Fatalf("Num(%v) = %v: %q, want %q", x, got, s, written(x))
		}
	}
}

// TestNumNone: what is no Dec is refused.
func TestNumNone(t *testing.T) { // P10.1
	for _, x := range none() {
		if got := num(x); got != refused(api.ErrArg) {
			t.Errorf("Num(%v) = %v", x, got)
		}
	}
}

func TestTruth(t *testing.T) { // P10.1
	if got := value.Truth(true); got != (api.Value{Kind: 2}) {
		t.Error("Truth of true:", got)
	}
	if got := value.Truth(false); got != (api.Value{Kind: 3}) {
		t.Error("Truth of false:", got)
	}
}

func TestBad(t *testing.T) { // P10.1
	for _, e := range []api.Errno{api.ErrOver, api.ErrDiv, api.ErrMissing} {
		if got := bad(e); got != fine(broken(e)) {
			t.Errorf("Bad(%d) = %v", e, got)
		}
	}
	for _, e := range errnos() {
		if got := bad(e); !isBad(e) && got != refused(api.ErrArg) {
			t.Errorf("Bad(%d) = %v", e, got)
		}
	}
}

func TestText(t *testing.T) { // P10.2
	for s, v := range texts() {
		if got := value.Text(v); got != s {
			t.Errorf("Text(%v) = %q, want %q", v, got, s)
		}
	}
}

// TestTextNone: what may not be has no text; what may be has one, which is read as it.
func TestTextNone(t *testing.T) { // P10.2
	for _, v := range values() {
		s := value.Text(v)
		if may(v) != (s != "") {
			t.Errorf("Text(%v) = %q", v, s)
		}
		if got := parse(s); may(v) && got != fine(v) {
			t.Errorf("Parse(%q) = %v, want %v", s, got, v)
		}
	}
}

// TestTextNumbers holds numbers' texts against exact fractions; such as are not canonical have none, nor has what is no Dec.
func TestTextNumbers(t *testing.T) { // P10.2
	for _, x := range append(decs(), none()...) {
		want := ""
		if isCanonical(x) {
			want = written(x)
		}
		if got := value.Text(api.Value{Kind: 1, N: x}); got != want {
			t.Errorf("Text of the number %v = %q, want %q", x, got, want)
		}
	}
}

func TestParse(t *testing.T) { // P10.2
	for s, v := range texts() {
		if got := parse(s); got != fine(v) {
			t.Errorf("Parse(%q) = %v, want %v", s, got, v)
		}
	}
}

func TestParseForm(t *testing.T) { // P10.2
	for _, s := range []string{
		"", " ", "\x00", "\n", "-", ".", "+",
		"Absent", "ABSENT", "absenT", "True", "TRUE", "tRue", "False", "FALSE", "Over", "OVER", "Div", "DIV", "Missing", "MISSING", "missinG",
		" absent", "absent ", " true", "true ", "\ttrue", "true\n", " false", "false ", " over", "over ", " div", "div ", " missing", "missing ", "tr ue",
		"absen", "bsent", "a", "tru", "rue", "t", "fals", "alse", "f", "ove", "ver", "o", "di", "iv", "d", "missin", "issing", "m",
		"absentt", "aabsent", "truee", "ttrue", "falses", "ffalse", "overs", "oover", "divv", "ddiv", "missings", "mmissing", "div0", "0div", "true1", "1true",
		"truefalse", "true false", "truetrue", "true,", "-true", "-div", "+over", "absent\x00", "\x00absent", "not", "not true",
		// Words of other errors, and such as one might think of.
		"ok", "nil", "arg", "long", "form", "none", "twice", "full", "kind", "cycle", "depth", "locked", "span", "state", "bad", "num", "number",
		"ErrOver", "ErrDiv", "ErrMissing", "errover", "err", "overflow", "division", "miss", "absence", "empty", "null", "yes", "no", "NaN", "inf", "bad over", "bad:div",
		// Numbers that are not of layer 3's form.
		"01", "-01", "00", "-0", "1.50", "1.0", "0.0", "-0.0", ".5", "-.5", "1.", "-1.", "+1", "--1", "1-", "1.2.3", "1 2", " 1", "1 ", "1e5", "0x1", "1_0", "1,5",
		"1.0000000001", "0.1234567891", "\u0661", "\uff11", "\u22121", "1\xff", "\xff", "\xb1",
		// Numbers that layer 3 tells to be over.
		"9223372036854775808", "-9223372036854775809", "922337203685477580.8", "-922337203685477580.9", "9223372036.854775808", "-9223372036.854775809",
		"18446744073709551616", "999999999999999999999", "10000000000.000000001",
		// And such as are too long for it.
		"-9223372036.8547758080", "0000000000000000000000", "1000000000000000000000", strings.Repeat("1", 1000),
		strings.Repeat("true", 1<<18), strings.Repeat("x", 1<<20), strings.Repeat(" ", 1<<16) + "true", "absent" + strings.Repeat("\x00", 1<<16),
		// Letters that look like those of the words, and bytes that are no letters.
		"tr\u016be", "\uff54rue", "d\u0456v", "\u0000true", "\ufefftrue", "true\u00a0", "\u00e9", "\xc3", "\xff\xfe", "tru\xe5", "di\xf6",
	} {
		if got := parse(s); got != refused(api.ErrForm) {
			t.Errorf("Parse(%.40q), of %d bytes, = %v", s, len(s), got)
		}
	}
}

// TestParseErrors: whatever layer 3 tells of a text that is no word, it is ErrForm.
func TestParseErrors(t *testing.T) { // P10.2
	for s, e := range map[string]api.Errno{
		"1.50":                            api.ErrForm,
		"":                                api.ErrForm,
		"9223372036854775808":             api.ErrOver,
		"-9223372036.854775809":           api.ErrOver,
		"1000000000000000000000":          api.ErrLong,
		"true" + strings.Repeat(" ", 100): api.ErrLong,
	} {
		if _, got := dectext.Parse(s); got != e {
			t.Errorf("layer 3's Parse(%q) = %d, want %d", s, got, e)
		}
		if got := parse(s); got != refused(api.ErrForm) {
			t.Errorf("Parse(%q) = %v", s, got)
		}
	}
}

// TestParseChanged holds texts, and such with a byte changed, put in or left out, against the words and a pattern of numbers.
func TestParseChanged(t *testing.T) { // P10.2
	for s := range texts() {
		hold(t, s)
		for i := range len(s) + 1 {
			for b := range 256 {
				hold(t, s[:i]+string([]byte{byte(b)})+s[i:])
				if i < len(s) {
					hold(t, s[:i]+string([]byte{byte(b)})+s[i+1:])
				}
			}
			if i < len(s) {
				hold(t, s[:i]+s[i+1:])
				hold(t, s[:i])
				hold(t, s[i:])
			}
		}
	}
}

// TestParseShort holds all texts of at most two bytes, and all of at most seven of some, against the words and a pattern of numbers.
func TestParseShort(t *testing.T) { // P10.2
	for a := range 256 {
		hold(t, string([]byte{byte(a)}))
		for b := range 256 {
			hold(t, string([]byte{byte(a), byte(b)}))
		}
	}
	l := []string{""}
	for range 7 {
		var next []string
		for _, s := range l {
			for _, b := range "div-.01" {
				next = append(next, s+string(b))
			}
		}
		for _, s := range next {
			hold(t, s)
		}
		l = next
	}
}

// TestParseNumbers: each number's text is read as the value that Num tells of it.
func TestParseNumbers(t *testing.T) { // P10.2
	for _, x := range decs() {
		s := written(x)
		if got := parse(s); got != num(x) {
			t.Errorf("Parse(%q) = %v, want %v", s, got, num(x))
		}
		hold(t, s)
	}
}

// TestSame: values that may be are the same just if their texts are.
func TestSame(t *testing.T) { // P10.1, P10.2
	of := map[string]api.Value{}
	text := map[api.Value]string{}
	l := values()
	for _, x := range decs() {
		l = append(l, api.Value{Kind: 1, N: x}, num(x).v)
	}
	for _, v := range l {
		if !value.May(v) {
			continue
		}
		s := value.Text(v)
		if other, is := of[s]; is && other != v {
			t.Errorf("%v and %v both have the text %q", v, other, s)
		}
		if other, is := text[v]; is && other != s {
			t.Errorf("%v has the texts %q and %q", v, other, s)
		}
		of[s], text[v] = v, s
	}
}

// TestExamples are the chapter's examples.
func TestExamples(t *testing.T) { // P10.2
	for s, want := range map[string]answer{
		"true": fine(value.Truth(true)),
		"-1.5": num(api.Dec{C: -15, S: 1}),
		"div":  bad(api.ErrDiv),
		"01":   refused(api.ErrForm),
		"bad":  refused(api.ErrForm),
	} {
		if got := parse(s); got != want {
			t.Errorf("Parse(%q) = %v, want %v", s, got, want)
		}
	}
}

// TestAgain: what is told hangs on no call ahead: asked once more, backwards, it is as it was.
func TestAgain(t *testing.T) { // P10.1, P10.2
	type call struct {
		text string
		v    api.Value
	}
	type told struct {
		parsed, num, bad answer
		may              bool
		text             string
	}
	ask := func(c call) told {
		return told{parse(c.text), num(c.v.N), bad(c.v.E), value.May(c.v), value.Text(c.v)}
	}
	var calls []call
	for i, v := range values() {
		if i%41 == 0 || may(v) {
			calls = append(calls, call{[]string{"true", "x", "-1.5", "over", "01", "", "absent", "div"}[i%8], v})
		}
	}
	first := make([]told, len(calls))
	for i, c := range calls {
		first[i] = ask(c)
	}
	for i, c := range slices.Backward(calls) {
		if got := ask(c); got != first[i] {
			t.Errorf("of %v: %v, then %v", c, first[i], got)
		}
	}
}
