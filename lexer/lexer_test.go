package lexer_test

import (
	"math"
	"math/big"
	"regexp"
	"slices"
	"strings"
	"testing"
	"unsafe"

	"corrody/api"
	"corrody/dectext"
	"corrody/lexer"
)

// answer is what Lex tells.
type answer struct {
	l  []api.Tok
	at int
	e  api.Errno
}

func lex(s string) answer {
	l, at, e := lexer.Lex(s)
	return answer{l, at, e}
}

// fine is an answer without an error.
func fine(l ...api.Tok) answer { return answer{l: l} }

// bad is an answer with an error, and no words beside it.
func bad(e api.Errno, at int) answer { return answer{at: at, e: e} }

func same(a, b answer) bool { return slices.Equal(a.l, b.l) && a.at == b.at && a.e == b.e }

// name, sign and number are words, as the chapter lays them out.
func name(at int, text string) api.Tok { return api.Tok{Kind: 1, Text: text, At: at} }

func sign(at int, text string) api.Tok { return api.Tok{Kind: 3, Text: text, At: at} }

func number(at int, text string, c int64, s int) api.Tok {
	return api.Tok{Kind: 2, Text: text, N: api.Dec{C: c, S: s}, At: at}
}

// signs are all of them.
func signs() []string {
	return []string{"<=", ">=", "<>", "=", "<", ">", "+", "-", "*", "/", "(", ")", ","}
}

// kept are the words that are no field's.
func kept() []string {
	return []string{"true", "false", "and", "or", "not", "if", "min", "max", "abs", "round", "has", "orelse", "lag", "least", "most", "any", "every"}
}

// strays are what begins no word and is no blank, wherever it stands behind a blank or a sign.
func strays() []string {
	l := []string{
		// blanks that are none, and line ends
		"\t", "\n", "\r", "\r\n", "\v", "\f", "\u00a0", "\u0085", "\u2003", "\u2028", "\u3000", "\u200b", "\ufeff",
		// the byte 0, and others that are no letters
		"\x00", "\x01", "\x1b", "\x1f", "\x7f",
		// signs that are none
		"!", "\"", "#", "$", "%", "&", "'", ".", ":", ";", "?", "@", "[", "\\", "]", "^", "_", "`", "{", "|", "}", "~", "!=", "&&", "||", ".5", "..", "%1",
		// letters, digits and signs of several bytes
		"\u00e9", "\u00df", "\u0430", "\uff41", "\U0001d41a", "\u0661", "\uff11", "\u00b2", "\u2212", "\u00d7", "\u00f7", "\u2264", "\u2265", "\u2260", "\uff08", "\uff0b", "\uff1c", "\u20ac", "\U0001f600",
		"\ufffd", "\uffff", "\U0010ffff",
		// bytes that are no letters at all: above 127, alone and cut off; too long a form; a half of a pair
		"\x80", "\xa0", "\xbf", "\xc0", "\xc3", "\xe9", "\xfe", "\xff", "\xff\xfe", "\xe2\x89", "\xf0\x9f\x98", "\xc0\xa0", "\xc1\xa1", "\xe0\x80\xa0", "\xed\xa0\x80", "\xf4\x90\x80\x80",
	}
	for r := 'A'; r <= 'Z'; r++ {
		l = append(l, string(r))
	}
	return l
}

var (
	wordForm   = regexp.MustCompile(`^(?:([a-z][a-z0-9]*)|([0-9]+(?:\.[0-9]+)?)|(<=|>=|<>|[=<>+*/(),-]))`)
	numberForm = regexp.MustCompile(`^(0|[1-9][0-9]*)(\.[0-9]{0,8}[1-9])?$`)
)

// worth is a number's text's, by a pattern and by whole numbers without a bound.
func worth(s string) (api.Dec, api.Errno) {
	if len(s) > 21 || !numberForm.MatchString(s) {
		return api.Dec{}, api.ErrForm
	}
	_, places, _ := strings.Cut(s, ".")
	c, _ := new(big.Int).SetString(strings.ReplaceAll(s, ".", ""), 10)
	if !c.IsInt64() {
		return api.Dec{}, api.ErrOver
	}
	return api.Dec{C: c.Int64(), S: len(places)}, api.OK
}

// want is what Lex should tell of a text, by patterns of words.
func want(s string) answer {
	if len(s) > 400 {
		return bad(api.ErrLong, 0)
	}
	var a answer
	for at := 0; at < len(s); {
		if s[at] == ' ' {
			at++
			continue
		}
		m := wordForm.FindStringSubmatch(s[at:])
		switch {
		case m == nil || len(m[1]) > 12:
			return bad(api.ErrForm, at)
		case m[1] != "":
			a.l = append(a.l, name(at, m[1]))
		case m[3] != "":
			a.l = append(a.l, sign(at, m[3]))
		default:
			n, e := worth(m[2])
			if e != api.OK {
				return bad(e, at)
			}
			a.l = append(a.l, number(at, m[2], n.C, n.S))
		}
		at += len(m[0])
	}
	return a
}

// joined are words with a blank between, and the same words with their places there.
func joined(l []api.Tok) (string, []api.Tok) {
	var texts []string
	at := 0
	moved := slices.Clone(l)
	for i := range moved {
		texts = append(texts, moved[i].Text)
		moved[i].At = at
		at += len(moved[i].Text) + 1
	}
	return strings.Join(texts, " "), moved
}

// wantName is whether a text is a field's name, by a pattern and the words that are kept.
func wantName(s string) bool {
	return nameForm.MatchString(s) && !slices.Contains(kept(), s)
}

var nameForm = regexp.MustCompile(`\A[a-z][a-z0-9]{0,11}\z`)

// hold holds what Lex tells of a text against what it should; its words against the text, and read again; and Name.
func hold(t *testing.T, s string) {
	t.Helper()
	got := lex(s)
	if !same(got, want(s)) {
		t.Fatalf("Lex(%q) = %v, want %v", s, got, want(s))
	}
	for _, x := range got.l {
		if !strings.HasPrefix(s[x.At:], x.Text) || x.Text == "" {
			t.Fatalf("Lex(%q): %v does not stand there", s, x)
		}
	}
	if text, moved := joined(got.l); len(text) <= 400 && !same(lex(text), fine(moved...)) {
		t.Fatalf("Lex(%q) = %v; of %q %v", s, got, text, lex(text))
	}
	if lexer.Name(s) != wantName(s) {
		t.Fatalf("Name(%q) = %v", s, lexer.Name(s))
	}
}

// check holds what Lex tells against what is written by hand.
func check(t *testing.T, s string, want answer) {
	t.Helper()
	if got := lex(s); !same(got, want) {
		t.Errorf("Lex(%.80q), of %d bytes, = %v, want %v", s, len(s), got, want)
	}
}

// TestExamples are the chapter's examples.
func TestExamples(t *testing.T) { // P14.1
	check(t, "a1<=2.50", bad(api.ErrForm, 4))
	check(t, "a1<=2.5", fine(name(0, "a1"), sign(2, "<="), number(4, "2.5", 25, 1)))
	check(t, "a # b", bad(api.ErrForm, 2))
}

func TestLex(t *testing.T) { // P14.1
	check(t, "a + 2 * b", fine(name(0, "a"), sign(2, "+"), number(4, "2", 2, 0), sign(6, "*"), name(8, "b")))
	check(t, "if(has(pay),pay/12,0.5)", fine(name(0, "if"), sign(2, "("), name(3, "has"), sign(6, "("), name(7, "pay"), sign(10, ")"), sign(11, ","),
		name(12, "pay"), sign(15, "/"), number(16, "12", 12, 0), sign(18, ","), number(19, "0.5", 5, 1), sign(22, ")")))
	check(t, "not a=-3 and b<>0", fine(name(0, "not"), name(4, "a"), sign(5, "="), sign(6, "-"), number(7, "3", 3, 0), name(9, "and"), name(13, "b"), sign(14, "<>"), number(16, "0", 0, 0)))
	check(t, "lag(a, 3661)", fine(name(0, "lag"), sign(3, "("), name(4, "a"), sign(5, ","), number(7, "3661", 3661, 0), sign(11, ")")))
	check(t, "true false", fine(name(0, "true"), name(5, "false")))
	check(t, ")) ,* a", fine(sign(0, ")"), sign(1, ")"), sign(3, ","), sign(4, "*"), name(6, "a")))
}

// TestBlanks: they stand ahead, behind and between, as many as one likes, and are nothing else.
func TestBlanks(t *testing.T) { // P14.1
	for _, n := range []int{0, 1, 2, 3, 7, 399, 400} {
		check(t, strings.Repeat(" ", n), fine())
	}
	for _, x := range []api.Tok{name(0, "a"), name(0, "z9"), number(0, "7", 7, 0), number(0, "1.5", 15, 1), sign(0, "<="), sign(0, "("), sign(0, ",")} {
		for _, n := range []int{0, 1, 2, 5, 390} {
			ahead := strings.Repeat(" ", n)
			moved := x
			moved.At = n
			check(t, ahead+x.Text, fine(moved))
			check(t, x.Text+ahead, fine(x))
			check(t, " "+x.Text+ahead, fine(api.Tok{Kind: x.Kind, Text: x.Text, N: x.N, At: 1}))
			behind := api.Tok{Kind: 3, Text: "/", At: n + len(x.Text)}
			check(t, x.Text+ahead+"/", fine(x, behind))
		}
	}
	check(t, "  a  b  ", fine(name(2, "a"), name(5, "b")))
	check(t, "ab", fine(name(0, "ab")))
	check(t, "a b", fine(name(0, "a"), name(2, "b")))
	check(t, "1 2", fine(number(0, "1", 1, 0), number(2, "2", 2, 0)))
	check(t, "1 .5", bad(api.ErrForm, 2))
	check(t, "1. 5", bad(api.ErrForm, 1))
	check(t, "1 . 5", bad(api.ErrForm, 2))
	check(t, "a 1", fine(name(0, "a"), number(2, "1", 1, 0)))
	check(t, "< =", fine(sign(0, "<"), sign(2, "=")))
}

// TestSigns: each one alone, and each beside each other one.
func TestSigns(t *testing.T) { // P14.1
	for _, a := range signs() {
		check(t, a, fine(sign(0, a)))
		check(t, "x"+a+"y", fine(name(0, "x"), sign(1, a), name(1+len(a), "y")))
		check(t, "1"+a+"2", fine(number(0, "1", 1, 0), sign(1, a), number(1+len(a), "2", 2, 0)))
		for _, b := range signs() {
			check(t, a+" "+b, fine(sign(0, a), sign(len(a)+1, b)))
			// Two signs of which no bytes are a sign of two bytes together stay what they are.
			if two := a[len(a)-1:] + b[:1]; len(a) == 2 || !slices.Contains(signs(), two) {
				check(t, a+b, fine(sign(0, a), sign(len(a), b)))
			}
		}
	}
}

// TestPairs: of signs side by side each one is as long as it can be, from the left on.
func TestPairs(t *testing.T) { // P14.1
	for s, want := range map[string][]string{
		"<=": {"<="}, ">=": {">="}, "<>": {"<>"},
		"=<": {"=", "<"}, "=>": {"=", ">"}, "><": {">", "<"}, "<<": {"<", "<"}, ">>": {">", ">"}, "==": {"=", "="},
		"<==": {"<=", "="}, "<<=": {"<", "<="}, "<=<": {"<=", "<"}, "<=>": {"<=", ">"}, "<=<=": {"<=", "<="}, "<=>=": {"<=", ">="}, "<=<>": {"<=", "<>"},
		">==": {">=", "="}, ">>=": {">", ">="}, ">=<": {">=", "<"}, ">=>": {">=", ">"}, "><=": {">", "<="}, "><>": {">", "<>"},
		"<>=": {"<>", "="}, "<>>": {"<>", ">"}, "<><": {"<>", "<"}, "<<>": {"<", "<>"}, "<>>=": {"<>", ">="}, "<><=": {"<>", "<="}, "=<=": {"=", "<="}, "=>=": {"=", ">="}, "=<>": {"=", "<>"},
		"<<<<": {"<", "<", "<", "<"}, "<<>>": {"<", "<>", ">"}, ">=<=<>": {">=", "<=", "<>"}, "===": {"=", "=", "="},
		"+-*/(),": {"+", "-", "*", "/", "(", ")", ","}, "--": {"-", "-"}, "**": {"*", "*"}, "//": {"/", "/"}, "()": {"(", ")"}, ")(": {")", "("}, "<-": {"<", "-"}, "->": {"-", ">"}, "+=": {"+", "="}, "/=": {"/", "="},
	} {
		var l []api.Tok
		at := 0
		for _, x := range want {
			l = append(l, sign(at, x))
			at += len(x)
		}
		check(t, s, fine(l...))
	}
}

func TestNames(t *testing.T) { // P14.1
	for _, s := range []string{"a", "m", "z", "a0", "z9", "a1b2", "b007", "ab", "zz", "x1y2z3", "abcdefghijkl", "mnopqrstuvwx", "yz0123456789", "a23456789012", "zzzzzzzzzzzz", "e5", "x1f", "o0"} {
		check(t, s, fine(name(0, s)))
		check(t, "("+s+")", fine(sign(0, "("), name(1, s), sign(1+len(s), ")")))
	}
	for _, s := range kept() {
		check(t, s, fine(name(0, s)))
		check(t, s+" "+s, fine(name(0, s), name(len(s)+1, s)))
		check(t, s+s[:1], fine(name(0, s+s[:1])))
	}
	for _, s := range []string{"abcdefghijklm", "a234567890123", "zzzzzzzzzzzzz", "orelseorelse0", strings.Repeat("a", 24), strings.Repeat("a", 400), "b" + strings.Repeat("9", 399)} {
		check(t, s, bad(api.ErrForm, 0))
		if len(s) < 390 {
			check(t, "a + "+s, bad(api.ErrForm, 4))
			check(t, "  "+s+"  ", bad(api.ErrForm, 2))
			check(t, "1"+s, bad(api.ErrForm, 1))
		}
	}
	// What is no small letter and no digit ends a name.
	check(t, "aB", bad(api.ErrForm, 1))
	check(t, "a_b", bad(api.ErrForm, 1))
	check(t, "a.b", bad(api.ErrForm, 1))
	check(t, "a1.5", bad(api.ErrForm, 2))
	check(t, "abcdefghijkl.", bad(api.ErrForm, 12))
	check(t, "abcdefghijklM", bad(api.ErrForm, 12))
	check(t, "abcdefghijkl mn", fine(name(0, "abcdefghijkl"), name(13, "mn")))
}

func TestNumbers(t *testing.T) { // P14.1
	for _, x := range []api.Tok{
		number(0, "0", 0, 0), number(0, "1", 1, 0), number(0, "9", 9, 0), number(0, "10", 10, 0), number(0, "100", 100, 0), number(0, "3660", 3660, 0),
		number(0, "0.5", 5, 1), number(0, "2.5", 25, 1), number(0, "0.05", 5, 2), number(0, "10.01", 1001, 2), number(0, "0.125", 125, 3), number(0, "100.000000001", 100000000001, 9),
		number(0, "0.000000001", 1, 9), number(0, "0.123456789", 123456789, 9), number(0, "0.100000001", 100000001, 9), number(0, "0.999999999", 999999999, 9),
		number(0, "1000000000000000000", 1e18, 0), number(0, "9223372036854775807", math.MaxInt64, 0), number(0, "922337203685477580.7", math.MaxInt64, 1), number(0, "9223372036.854775807", math.MaxInt64, 9),
		number(0, "9223372036854775806", math.MaxInt64-1, 0), number(0, "1000000000.000000001", 1e18+1, 9),
	} {
		check(t, x.Text, fine(x))
		behind := x
		behind.At = 1
		check(t, "-"+x.Text, fine(sign(0, "-"), behind))
		check(t, "+"+x.Text+",", fine(sign(0, "+"), behind, sign(1+len(x.Text), ",")))
		// A digit ahead of a letter ends a number.
		check(t, x.Text+"a1", fine(x, name(len(x.Text), "a1")))
	}
	check(t, "1a", fine(number(0, "1", 1, 0), name(1, "a")))
	check(t, "12ab34", fine(number(0, "12", 12, 0), name(2, "ab34")))
	check(t, "1e5", fine(number(0, "1", 1, 0), name(1, "e5")))
	check(t, "0x1f", fine(number(0, "0", 0, 0), name(1, "x1f")))
	check(t, "1.5e2", fine(number(0, "1.5", 15, 1), name(3, "e2")))
	check(t, "1,5", fine(number(0, "1", 1, 0), sign(1, ","), number(2, "5", 5, 0)))
	check(t, "1-5", fine(number(0, "1", 1, 0), sign(1, "-"), number(2, "5", 5, 0)))
}

// TestNumbersForm: a number that is none of layer 3's is refused where it begins; a point that is none of its number's, where it stands.
func TestNumbersForm(t *testing.T) { // P14.1
	for _, s := range []string{
		"00", "01", "007", "000", "0123456789", "00.5", "01.5", "0000000000000000000000",
		"1.0", "0.0", "1.50", "2.500", "0.10", "100.00", "0.000000000", "1.5000000000",
		"1.0000000001", "0.1234567891", "0.00000000001", "1.23456789012345678901",
		"1000000000000000000000", "9999999999999999999999", "1.000000000000000000001", strings.Repeat("1", 400), strings.Repeat("1", 200) + "." + strings.Repeat("1", 199),
	} {
		check(t, s, bad(api.ErrForm, 0))
		if len(s) < 390 {
			check(t, "a<="+s, bad(api.ErrForm, 3))
			check(t, "  "+s+" b", bad(api.ErrForm, 2))
			check(t, s+"b", bad(api.ErrForm, 0))
		}
	}
	for s, at := range map[string]int{
		"1.": 1, "1. ": 1, "12.": 2, "0.": 1, "1.a": 1, "1.+2": 1, "1.)": 1, "1..5": 1, "1...": 1, "9223372036854775807.": 19,
		".": 0, ".5": 0, ".0": 0, "..5": 0, " .5": 1, "-.5": 1, "a .5": 2, "a.5": 1, "(.5)": 1,
		"1.2.3": 3, "1.2.": 3, "0.5.5": 3, "1.2..3": 3, "10.25.1": 5, "1.2 .3": 4,
		// The first word that is none is told: the number ahead of the point.
		"01.": 0, "00.": 0, "01.2.3": 0, "1.20.3": 0, "1.0.": 0,
		"1.\u0661": 1, "1\uff0e5": 1, "1'000": 1, "1_0": 1, "1.5\xff": 3, "1\x00": 1,
	} {
		check(t, s, bad(api.ErrForm, at))
	}
}

// TestNumbersOver: a number that layer 3 tells to be too great is ErrOver, and just that.
func TestNumbersOver(t *testing.T) { // P14.1
	for _, s := range []string{
		"9223372036854775808", "922337203685477580.8", "9223372036.854775808", "9223372036854775809", "18446744073709551615", "18446744073709551616", "18446744073709551617",
		"10000000000000000000", "99999999999999999999", "999999999999999999999", "100000000000000000000", "10000000000.000000001", "99999999999.999999999", "9223372036854775807.1",
	} {
		if _, e := dectext.Parse(s); e != api.ErrOver {
			t.Errorf("layer 3 tells %d of %q", e, s)
		}
		check(t, s, bad(api.ErrOver, 0))
		check(t, "-"+s, bad(api.ErrOver, 1))
		check(t, "a + "+s+" # 01", bad(api.ErrOver, 4))
		check(t, s+".", bad(api.ErrOver, 0))
		check(t, s+"abcdefghijklm", bad(api.ErrOver, 0))
	}
	// One byte more, and layer 3 tells that it is too long, or not of the form: neither is a number's text.
	check(t, "9999999999999999999999", bad(api.ErrForm, 0))
	check(t, "99999999999.9999999990", bad(api.ErrForm, 0))
	check(t, "09223372036854775808", bad(api.ErrForm, 0))
	check(t, "9223372036854775808.0", bad(api.ErrForm, 0))
}

// TestLong: a text has at most 400 bytes, whatever stands in it.
func TestLong(t *testing.T) { // P14.1
	for _, unit := range []string{"abcdefg ", "a1b2c3d,", "12.5 ", "1+", "0 ", "    ", " ", "<=", "<> ", "(", "abcdefghijklmnop", "01 ", "#", "\x00", "\xff", "\u00e9", "99999999999999999999"} {
		s := strings.Repeat(unit, 500)
		check(t, s[:400], want(s[:400]))
		for _, n := range []int{401, 402, 800, len(s)} {
			check(t, s[:min(n, len(s))], bad(api.ErrLong, 0))
		}
	}
	names := strings.Repeat("a ", 200)
	if got := lex(names); got.e != api.OK || len(got.l) != 200 || got.l[199] != name(398, "a") {
		t.Errorf("Lex of 400 bytes of names: %v", got)
	}
	numbers := strings.Repeat(" 7", 200)
	if got := lex(numbers); got.e != api.OK || len(got.l) != 200 || got.l[199] != number(399, "7", 7, 0) {
		t.Errorf("Lex of 400 bytes of numbers: %v", got)
	}
	parens := strings.Repeat("(", 400)
	if got := lex(parens); got.e != api.OK || len(got.l) != 400 || got.l[399] != sign(399, "(") {
		t.Errorf("Lex of 400 bytes of signs: %v", got)
	}
	check(t, names+" ", bad(api.ErrLong, 0))
	check(t, numbers+"7", bad(api.ErrLong, 0))
	check(t, parens+"(", bad(api.ErrLong, 0))
	check(t, strings.Repeat(" ", 401), bad(api.ErrLong, 0))
	check(t, strings.Repeat(" ", 399)+"a", fine(name(399, "a")))
	check(t, strings.Repeat(" ", 400)+"a", bad(api.ErrLong, 0))
	check(t, strings.Repeat(" ", 399)+"#", bad(api.ErrForm, 399))
	check(t, strings.Repeat(" ", 398)+"\u00e9", bad(api.ErrForm, 398))
	check(t, strings.Repeat(" ", 399)+"\u00e9", bad(api.ErrLong, 0))
	check(t, strings.Repeat(" ", 381)+"9223372036854775807", fine(number(381, "9223372036854775807", math.MaxInt64, 0)))
	check(t, strings.Repeat(" ", 381)+"9223372036854775808", bad(api.ErrOver, 381))
	check(t, "#"+strings.Repeat(" ", 400), bad(api.ErrLong, 0))
	check(t, strings.Repeat("a+", 1<<20), bad(api.ErrLong, 0))
}

// TestFirst: of several faults the first one is told, where it begins.
func TestFirst(t *testing.T) { // P14.1
	faults := []struct {
		text string
		e    api.Errno
	}{
		{"#", api.ErrForm}, {"A", api.ErrForm}, {"\t", api.ErrForm}, {"\xff", api.ErrForm}, {"\u00e9", api.ErrForm}, {".5", api.ErrForm}, {"01", api.ErrForm}, {"2.50", api.ErrForm},
		{"abcdefghijklm", api.ErrForm}, {"9223372036854775808", api.ErrOver}, {"999999999999999999999", api.ErrOver}, {"9999999999999999999999", api.ErrForm},
	}
	for _, a := range faults {
		for _, b := range faults {
			check(t, a.text+" "+b.text, bad(a.e, 0))
			check(t, "x + "+a.text+" * "+b.text, bad(a.e, 4))
			check(t, "  0.5,"+a.text+","+b.text+","+a.text, bad(a.e, 6))
			// A text that is too long is told ahead of all of them.
			check(t, a.text+strings.Repeat(" ", 400)+b.text, bad(api.ErrLong, 0))
		}
	}
}

// TestStrays: bytes that begin no word are refused, at the begin, amidst and at the end.
func TestStrays(t *testing.T) { // P14.1
	for _, x := range strays() {
		for _, ahead := range []string{"", " ", "   ", "a ", "ab", "a1", "1 ", "12", "1.5", "<", "<=", ">", "(", ",", "a+", "a + ", "if(", "true", "abcdefghijkl"} {
			// A point and a digit behind a number's digits are that number's.
			if x == ".5" && ahead == "12" {
				continue
			}
			for _, behind := range []string{"", " ", "b", " b", "1", "=", "(", "#", "abcdefghijklm", " 01"} {
				if x == "." && ahead == "12" && behind == "1" {
					continue
				}
				check(t, ahead+x+behind, bad(api.ErrForm, len(ahead)))
			}
		}
		hold(t, x)
		hold(t, "a"+x+"b")
		hold(t, "1"+x+"2")
	}
}

// TestBytes holds all texts of one and of two bytes, and such as stand between words, against the patterns.
func TestBytes(t *testing.T) { // P14.1, P14.2
	for a := range 256 {
		x := string([]byte{byte(a)})
		hold(t, x)
		hold(t, "a "+x)
		hold(t, x+" a")
		hold(t, "0."+x+".0")
		for b := range 256 {
			y := string([]byte{byte(b)})
			hold(t, x+y)
			hold(t, "a"+x+y)
			hold(t, "1"+x+y)
			hold(t, "1."+x+y)
			hold(t, "<"+x+y)
		}
	}
}

// TestShort holds all short texts of some bytes against the patterns.
func TestShort(t *testing.T) { // P14.1, P14.2
	for _, c := range []struct {
		of string
		n  int
	}{{"a1. 0", 7}, {"<>= a-", 6}, {"09.", 9}, {"az09 ,", 6}, {"=<>+-*/(), ", 4}} {
		l := []string{""}
		for range c.n {
			var next []string
			for _, s := range l {
				for _, b := range c.of {
					next = append(next, s+string(b))
				}
			}
			for _, s := range next {
				hold(t, s)
			}
			l = next
		}
	}
}

// formulas are texts of several words, and of faults.
func formulas() []string {
	return []string{
		"a1<=2.5", "a1<=2.50", "a # b", "if(has(pay), round(pay / 12, 2), orelse(pay, 0.5))", "not (a<>b) and any(c,3660) or -x*2>=y",
		"least(abcdefghijkl, 30)=most(abcdefghijkl,9223372036854775807)", "  a  -  b  ", "((((1))))", "0.000000001+100000000.000000001", "true=false",
		"9223372036.854775807", "922337203685477580.8", "", " ", strings.Repeat("abc 1.5<=", 44) + "0.25",
	}
}

// TestChanged holds formulas, and such with a byte or a stray put in, laid over or left out, against the patterns.
func TestChanged(t *testing.T) { // P14.1, P14.2
	in := strays()
	for b := range 256 {
		in = append(in, string([]byte{byte(b)}))
	}
	for _, s := range formulas() {
		step := 1 + len(s)/100
		for i := 0; i <= len(s); i += step {
			hold(t, s[:i])
			hold(t, s[i:])
			for _, x := range in {
				hold(t, s[:i]+x+s[i:])
				if i < len(s) {
					hold(t, s[:i]+x+s[i+1:])
				}
			}
			if i < len(s) {
				hold(t, s[:i]+s[i+1:])
			}
		}
	}
}

// TestMixed holds texts put together of words, blanks and some faults against the patterns.
func TestMixed(t *testing.T) { // P14.1, P14.2
	parts := append(append(signs(), kept()...), "", " ", "  ", "a", "b2", "pay", "abcdefghijkl", "0", "7", "12", "0.5", "2.25", "9223372036854775807", "3660", "0.000000001", ".", "#", "01", "abcdefghijklm", "9223372036854775808", "\u00e9")
	r := uint64(88172645463325252)
	next := func(n int) int {
		r ^= r << 13
		r ^= r >> 7
		r ^= r << 17
		return int(r % uint64(n))
	}
	fines := 0
	for range 60000 {
		var s strings.Builder
		for range next(12) {
			s.WriteString(parts[next(len(parts)-next(2)*6)])
			if next(2) == 0 {
				s.WriteString(" ")
			}
		}
		hold(t, s.String())
		if want(s.String()).e == api.OK {
			fines++
		}
	}
	if fines < 10000 {
		t.Errorf("of the texts %d alone are fine", fines)
	}
}

// TestReadAgain: words told with a blank between are read again as they are.
func TestReadAgain(t *testing.T) { // what follows P14.1
	for s, again := range map[string]string{
		"a1<=2.5":            "a1 <= 2.5",
		"  a  -  b  ":        "a - b",
		"1a<<=>":             "1 a < <= >",
		"12ab34":             "12 ab34",
		"-(a*b)":             "- ( a * b )",
		"not(true)and 0.5<>": "not ( true ) and 0.5 <>",
		"":                   "",
	} {
		text, moved := joined(lex(s).l)
		if text != again {
			t.Errorf("Lex(%q): words %q", s, text)
		}
		check(t, text, fine(moved...))
		once, _ := joined(lex(text).l)
		check(t, once, fine(moved...))
	}
	// 200 words of a byte each fill a text of 399 bytes with blanks between; 201 would be too long.
	l := lex(strings.Repeat("(", 200)).l
	text, moved := joined(l)
	check(t, text, fine(moved...))
	text, _ = joined(lex(strings.Repeat("(", 201)).l)
	check(t, text, bad(api.ErrLong, 0))
}

func TestName(t *testing.T) { // P14.2
	for _, s := range []string{
		"a", "z", "m", "a0", "z9", "ab", "pay", "b007", "x1y2z3", "abcdefghijkl", "yz0123456789", "a23456789012", "zzzzzzzzzzzz",
		// what one might take for a kept word
		"else", "then", "xor", "nor", "mod", "sum", "lead", "all", "some", "none", "null", "absent", "over", "div", "missing", "sqrt", "floor", "ceil", "yes", "no", "t", "f", "is", "in", "end", "or1", "and0", "if2", "true1", "min12", "e", "e5", "x0", "inf", "nan",
	} {
		if !lexer.Name(s) {
			t.Errorf("Name(%q) = false", s)
		}
	}
	for _, s := range []string{
		"", " ", "0", "1", "9", "1a", "0a", "12", "1.5", "a.b", "a1.5", "a b", " a", "a ", "  a", "a  ", "a,", "a+b", "(a)", "-a", "+", "<=", "=", ",", "(", ")",
		"A", "Z", "Ab", "aB", "aZ", "ABC", "a_b", "_a", "a_", "a-b", "a'", "a\t", "\ta", "a\n", "\na", "a\r", "a\x00", "\x00a", "\x00", "a\x7f", "`", "{", "a`", "a{", "a/", "a:", "a@", "a[",
		"\u00e9", "a\u00e9", "\u00e9a", "\uff41", "a\uff11", "a\u0661", "\u0430", "a\u0430", "\xe9", "a\xe9", "\xff", "a\xff", "\xffa", "a\ufffd", "\ufffd", "\ufeffa", "a\u00a0",
		"abcdefghijklm", "a234567890123", "zzzzzzzzzzzzz", strings.Repeat("a", 24), strings.Repeat("a", 400), strings.Repeat("a", 401), strings.Repeat("a", 1<<20), strings.Repeat("true", 1<<18), strings.Repeat(" ", 1<<20), strings.Repeat("\xff", 1<<20),
	} {
		if lexer.Name(s) {
			t.Errorf("Name(%.40q), of %d bytes, = true", s, len(s))
		}
	}
}

// TestNameKept: the kept words are no names; those with a letter or a digit more, or a letter less, are.
func TestNameKept(t *testing.T) { // P14.2
	for _, s := range kept() {
		if lexer.Name(s) {
			t.Errorf("Name(%q) = true", s)
		}
		for i := range len(s) + 1 {
			for _, b := range "abcdefghijklmnopqrstuvwxyz0123456789" {
				more := s[:i] + string(b) + s[i:]
				if want := (i > 0 || b >= 'a') && !slices.Contains(kept(), more); lexer.Name(more) != want {
					t.Errorf("Name(%q) = %v", more, !want)
				}
			}
			if i < len(s) {
				less := s[:i] + s[i+1:]
				if !lexer.Name(less) {
					t.Errorf("Name(%q) = false", less)
				}
				great := s[:i] + strings.ToUpper(s[i:i+1]) + s[i+1:]
				if lexer.Name(great) {
					t.Errorf("Name(%q) = true", great)
				}
			}
		}
		for _, x := range []string{" " + s, s + " ", s + "\n", s + ",", "(" + s + ")", "1" + s, s + "\x00"} {
			if lexer.Name(x) {
				t.Errorf("Name(%q) = true", x)
			}
		}
	}
}

// TestNameLex: a text is a name just if Lex tells it as one word that is one, from its first byte on, and it is not kept.
func TestNameLex(t *testing.T) { // P14.1, P14.2
	l := append(append(signs(), kept()...), strays()...)
	for _, s := range formulas() {
		for i := range len(s) {
			for n := range min(14, len(s)-i+1) {
				l = append(l, s[i:i+n])
			}
		}
	}
	for _, s := range l {
		got := lex(s)
		one := got.e == api.OK && len(got.l) == 1 && got.l[0] == name(0, s)
		if is := one && !slices.Contains(kept(), s); lexer.Name(s) != is {
			t.Errorf("Name(%q) = %v", s, !is)
		}
	}
}

// TestPart: what stands around a text in a longer one plays no part.
func TestPart(t *testing.T) { // P14.1, P14.2
	s := "x1.5<=ab9"
	check(t, s[1:4], fine(number(0, "1.5", 15, 1)))
	check(t, s[1:2], fine(number(0, "1", 1, 0)))
	check(t, s[4:5], fine(sign(0, "<")))
	check(t, s[4:8], fine(sign(0, "<="), name(2, "ab")))
	check(t, s[2:4], bad(api.ErrForm, 0))
	if !lexer.Name(s[6:8]) || !lexer.Name("true"[:3]) || lexer.Name("andy"[:3]) {
		t.Error("Name of a part")
	}
}

// TestKept: what is told stands in memory of its own: bytes that change under a text that was handed in change none of its words.
func TestKept(t *testing.T) { // P14.1
	handed := []byte("pay1<=2.5 ")
	s := unsafe.String(&handed[0], len(handed))
	got := lex(s)
	if string(handed) != "pay1<=2.5 " {
		t.Errorf("what was handed in is %q", handed)
	}
	for i := range handed {
		handed[i] = '#'
	}
	if !same(got, fine(name(0, "pay1"), sign(4, "<="), number(6, "2.5", 25, 1))) {
		t.Errorf("told: %v", got)
	}
	check(t, s, bad(api.ErrForm, 0))
}

// TestWrittenOver: what is told may be written over, and changes nothing that is told later.
func TestWrittenOver(t *testing.T) { // P14.1
	for _, s := range formulas() {
		first := lex(s)
		second := lex(s)
		for i := range first.l {
			first.l[i] = api.Tok{Kind: 9, Text: "x", N: api.Dec{C: 1, S: 1}, At: -1}
		}
		_ = append(first.l[:0], name(7, "y"), sign(8, "#"))
		check(t, s, want(s))
		if !same(second, want(s)) {
			t.Errorf("Lex(%q), told ahead of that: %v", s, second)
		}
	}
}

// TestAgain: what is told hangs on no call ahead: asked once more, backwards, it is as it was.
func TestAgain(t *testing.T) { // P14.1, P14.2
	l := append(append(formulas(), strays()...), kept()...)
	var first []answer
	var names []bool
	for _, s := range l {
		first = append(first, lex(s))
		names = append(names, lexer.Name(s))
	}
	for i, s := range slices.Backward(l) {
		if !same(lex(s), first[i]) || lexer.Name(s) != names[i] {
			t.Errorf("of %q: %v, %v, then %v, %v", s, first[i], names[i], lex(s), lexer.Name(s))
		}
	}
}
