package dectext_test

import (
	"fmt"
	"math"
	"math/big"
	"regexp"
	"strings"
	"testing"

	"corrody/api"
	"corrody/decimal"
	"corrody/dectext"
)

const (
	most  = math.MaxInt64
	least = math.MinInt64
)

// answer is what Parse tells.
type answer struct {
	d api.Dec
	e api.Errno
}

// dec is an answer without an error.
func dec(c int64, s int) answer { return answer{d: api.Dec{C: c, S: s}} }

// bad is an answer with an error, and a zero Dec beside it.
func bad(e api.Errno) answer { return answer{e: e} }

func parse(s string) answer {
	d, e := dectext.Parse(s)
	return answer{d, e}
}

// decs are numbers at the edges and ordinary ones, at all scales: those that are not canonical are among them.
func decs() []api.Dec {
	cs := []int64{0, most, most - 1, most - 7, least, least + 1, least + 8}
	for n := int64(1); n <= 1e17; n *= 10 {
		for _, c := range []int64{1, 2, 5, 9, 10, 11, 15, 25, 90} {
			cs = append(cs, c*n, -c*n, c*n-1, -c*n+1, c*n+1, -c*n-1)
		}
	}
	r := uint64(88172645463325252)
	for i := range 600 {
		r ^= r << 13
		r ^= r >> 7
		r ^= r << 17
		cs = append(cs, int64(r)>>(i%60))
	}
	l := []api.Dec{}
	for s := range api.MaxScale + 1 {
		for _, c := range cs {
			l = append(l, api.Dec{C: c, S: s})
		}
	}
	return l
}

// none are what is no Dec, noughts and numbers at the edges among them.
func none() []api.Dec {
	l := []api.Dec{}
	for _, s := range []int{-1, -2, -9, -10, 10, 11, 18, 19, 20, 64, math.MaxInt32, math.MinInt32, math.MaxInt, math.MinInt} {
		for _, c := range []int64{0, 1, -1, 10, -100, most, least} {
			l = append(l, api.Dec{C: c, S: s})
		}
	}
	return l
}

// worth is the exact number that x stands for.
func worth(x api.Dec) *big.Rat {
	unit := new(big.Int).Exp(big.NewInt(10), big.NewInt(int64(x.S)), nil)
	return new(big.Rat).SetFrac(big.NewInt(x.C), unit)
}

var form = regexp.MustCompile(`^-?(0|[1-9][0-9]*)(\.[0-9]{0,8}[1-9])?$`)

// want is what Parse should tell of s, by a pattern of the form and by whole numbers without a bound.
func want(s string) answer {
	if len(s) > 21 {
		return bad(api.ErrLong)
	}
	if !form.MatchString(s) || s == "-0" {
		return bad(api.ErrForm)
	}
	places := 0
	if at := strings.IndexByte(s, '.'); at >= 0 {
		places = len(s) - at - 1
	}
	c, _ := new(big.Int).SetString(strings.ReplaceAll(s, ".", ""), 10)
	if !c.IsInt64() {
		return bad(api.ErrOver)
	}
	return dec(c.Int64(), places)
}

// both are texts of numbers, each of which is the text of that Dec, and read as it.
func both() map[string]api.Dec {
	return map[string]api.Dec{
		"0":                     {},
		"7":                     {C: 7},
		"-7":                    {C: -7},
		"10":                    {C: 10},
		"-100":                  {C: -100},
		"1000000000000000000":   {C: 1e18},
		"0.125":                 {C: 125, S: 3},
		"-0.125":                {C: -125, S: 3},
		"1.5":                   {C: 15, S: 1},
		"-1.5":                  {C: -15, S: 1},
		"0.5":                   {C: 5, S: 1},
		"-0.5":                  {C: -5, S: 1},
		"10.01":                 {C: 1001, S: 2},
		"100.000000001":         {C: 100000000001, S: 9},
		"0.000000001":           {C: 1, S: 9},
		"-0.000000001":          {C: -1, S: 9},
		"0.100000001":           {C: 100000001, S: 9},
		"0.123456789":           {C: 123456789, S: 9},
		"-0.999999999":          {C: -999999999, S: 9},
		"1.000000001":           {C: 1000000001, S: 9},
		"9223372036854775807":   {C: most},
		"-9223372036854775808":  {C: least},
		"922337203685477580.7":  {C: most, S: 1},
		"-922337203685477580.8": {C: least, S: 1},
		"9223372036.854775807":  {C: most, S: 9},
		"-9223372036.854775808": {C: least, S: 9},
	}
}

func TestText(t *testing.T) { // P3.1
	for s, x := range both() {
		if got := dectext.Text(x); got != s {
			t.Errorf("Text(%v) = %q, want %q", x, got, s)
		}
	}
}

func TestTextNotCanonical(t *testing.T) { // P3.1
	for _, c := range []struct {
		x    api.Dec
		want string
	}{
		{api.Dec{C: 50, S: 1}, "5"},
		{api.Dec{C: -50, S: 1}, "-5"},
		{api.Dec{C: 0, S: 1}, "0"},
		{api.Dec{C: 0, S: 9}, "0"},
		{api.Dec{C: 100, S: 1}, "10"},
		{api.Dec{C: 100, S: 3}, "0.1"},
		{api.Dec{C: -1500, S: 3}, "-1.5"},
		{api.Dec{C: 1e9, S: 9}, "1"},
		{api.Dec{C: 1e18, S: 9}, "1000000000"},
		{api.Dec{C: -1e17, S: 9}, "-100000000"},
		{api.Dec{C: 10, S: 9}, "0.00000001"},
		{api.Dec{C: least + 8, S: 9}, "-9223372036.8547758"},
		{api.Dec{C: most - 7, S: 9}, "9223372036.8547758"},
	} {
		if got := dectext.Text(c.x); got != c.want {
			t.Errorf("Text(%v) = %q, want %q", c.x, got, c.want)
		}
	}
}

// TestTextNone: what is no Dec has no text.
func TestTextNone(t *testing.T) { // P3.1
	for _, x := range none() {
		if got := dectext.Text(x); got != "" {
			t.Errorf("Text(%v) = %q", x, got)
		}
	}
}

// TestTextExact holds texts against exact fractions, told with as many places as the canonical number has.
func TestTextExact(t *testing.T) { // P3.1
	for _, x := range decs() {
		n, _ := decimal.Put(x)
		want := worth(x).FloatString(n.S)
		if got := dectext.Text(x); got != want {
			t.Errorf("Text(%v) = %q, want %q", x, got, want)
		}
	}
}

func TestParse(t *testing.T) { // P3.2
	for s, x := range both() {
		if got := parse(s); got != (answer{d: x}) {
			t.Errorf("Parse(%q) = %v, want %v", s, got, x)
		}
	}
}

func TestParseForm(t *testing.T) { // P3.2
	for _, s := range []string{
		"", "-", ".", "-.", "--", "..", "-0", "--1", "1-", "-1-", "+1", "+0", "+",
		"1.", "-1.", "0.", "-0.", ".5", "-.5", ".0", "..5",
		"1.50", "1.0", "0.0", "-0.0", "0.10", "-1.500", "0.000000000", "0.000000010",
		"01", "-01", "00", "-00", "007", "00.5", "-00.5", "01.5", "0000000000000000000", "00000000000000000001",
		"1.0000000001", "0.1234567891", "-0.1234567891", "0.0000000000", "0.1000000000",
		"1.2.3", "1..2", "1.-2", "1.+2", "-1.-2", "1-2", "0-1", "0.5-", "0.5.",
		" ", " 1", "1 ", "1 2", "- 1", "1. 5", "\t1", "1\n", "1\x00", "\x00", "1,5", "1_000", "1.5_1", "1e5", "1E5", "0x1", "a", "1a", "1.a", "1.5a", "inf", "NaN",
		"\u0661", "1\u0662", "1.\u0663", "\uff11", "\u22121", "\xff", "1\xff", "1.\xff", "\xb1", "1/2", "1:", "/", ":", "1./", "1.:",
		"9223372036854775808.0", "99999999999999999999x", "12345678901.123456780", "9999999999999999999x",
	} {
		if got := parse(s); got != bad(api.ErrForm) {
			t.Errorf("Parse(%q) = %v", s, got)
		}
	}
}

func TestParseOver(t *testing.T) { // P3.2
	for _, s := range []string{
		"9223372036854775808", "-9223372036854775809", "9223372036854775810",
		"922337203685477580.8", "-922337203685477580.9",
		"92233720368547758.08", "92233720368547758.09",
		"9223372036.854775808", "-9223372036.854775809",
		"10000000000.000000001", "-9999999999.999999999", "99999999999.999999999",
		"18446744073709551615", "18446744073709551616", "18446744073709551617", "-18446744073709551616", "1844674407370955161.7",
		"10000000000000000000", "-10000000000000000000", "99999999999999999999", "-99999999999999999999",
		"100000000000000000000", "999999999999999999999", "9999999999999999999.9",
	} {
		if got := parse(s); got != bad(api.ErrOver) {
			t.Errorf("Parse(%q) = %v", s, got)
		}
	}
}

// TestParseLong: more than 21 bytes are too long, whatever they are; 21 are not.
func TestParseLong(t *testing.T) { // P3.2
	for _, s := range []string{
		"-9223372036.8547758080", // not of the form, too
		"-92233720368.547758081", // over, too
		"1234567890123.12345678", // over, too
		"0000000000000000000000", // not of the form, too
		"                     1", // not of the form, too
		"0.12345678901234567890", // not of the form, too
		"1000000000000000000000", // over, too
		"\u0661\u0661\u0661\u0661\u0661\u0661\u0661\u0661\u0661\u0661\u0661", // eleven runes of 22 bytes
		strings.Repeat("1", 1000),
		strings.Repeat("x", 1<<20),
		strings.Repeat("-", 22),
		strings.Repeat(".", 22),
		strings.Repeat("\xff", 22),
	} {
		if got := parse(s); got != bad(api.ErrLong) {
			t.Errorf("Parse of %d bytes = %v", len(s), got)
		}
	}
	for s, want := range map[string]answer{
		"-9223372036.854775808":            dec(least, 9),
		"-922337203685477580.8":            dec(least, 1),
		"-9223372036.854775809":            bad(api.ErrOver),
		"999999999999999999999":            bad(api.ErrOver),
		"000000000000000000000":            bad(api.ErrForm),
		"-9223372036.854775800":            bad(api.ErrForm),
		strings.Repeat("\u0661", 10) + "1": bad(api.ErrForm),
		strings.Repeat("x", 21):            bad(api.ErrForm),
	} {
		if got := parse(s); len(s) != 21 || got != want {
			t.Errorf("Parse(%q), of %d bytes, = %v, want %v", s, len(s), got, want)
		}
	}
}

// hold holds what Parse tells of s against the pattern, and the text of a number that is read against s.
func hold(t *testing.T, s string) {
	t.Helper()
	got := parse(s)
	if got != want(s) {
		t.Fatalf("Parse(%q) = %v, want %v", s, got, want(s))
	}
	if got.e != api.OK {
		return
	}
	if !decimal.May(got.d) {
		t.Fatalf("Parse(%q) = %v, which is not canonical", s, got.d)
	}
	if text := dectext.Text(got.d); text != s {
		t.Fatalf("Text(%v) = %q, want %q", got.d, text, s)
	}
}

// TestParseShort holds all texts of at most six of some bytes against the pattern.
func TestParseShort(t *testing.T) { // P3.2
	const bytes = "-.019 a"
	l := []string{""}
	for range 6 {
		next := []string{}
		for _, s := range l {
			for _, b := range bytes {
				next = append(next, s+string(b))
			}
		}
		for _, s := range next {
			hold(t, s)
		}
		l = next
	}
}

// TestParseBytes holds all texts of one and of two bytes against the pattern.
func TestParseBytes(t *testing.T) { // P3.2
	for a := range 256 {
		hold(t, string([]byte{byte(a)}))
		for b := range 256 {
			hold(t, string([]byte{byte(a), byte(b)}))
		}
	}
}

// TestParseChanged holds texts of numbers, and such with a byte changed, put in or left out, against the pattern.
func TestParseChanged(t *testing.T) { // P3.2
	for _, x := range decs() {
		s := dectext.Text(x)
		hold(t, s)
		for i := range len(s) + 1 {
			for _, b := range "-.0159 " {
				hold(t, s[:i]+string(b)+s[i:])
				if i < len(s) {
					hold(t, s[:i]+string(b)+s[i+1:])
				}
			}
			if i < len(s) {
				hold(t, s[:i]+s[i+1:])
			}
		}
	}
}

// TestBounds: at each scale the greatest and the least number that fit, and the next ones beyond, that have no nought in the last place.
func TestBounds(t *testing.T) { // P3.2
	for s := range api.MaxScale + 1 {
		for _, edge := range []int64{most, least} {
			for by := int64(-12); by <= 12; by++ {
				c := new(big.Int).Add(big.NewInt(edge), big.NewInt(by))
				text := fmt.Sprint(c)
				if s > 0 {
					text = text[:len(text)-s] + "." + text[len(text)-s:]
				}
				hold(t, text)
			}
		}
	}
}

// TestThereAndBack: each Dec's text is at most 21 bytes, and is read as its canonical number.
func TestThereAndBack(t *testing.T) { // P3.1, P3.2
	for _, x := range decs() {
		s := dectext.Text(x)
		n, e := decimal.Put(x)
		if got := parse(s); e != api.OK || got != (answer{d: n}) || len(s) > api.MaxDecText {
			t.Errorf("Parse(%q) = %v, want %v", s, got, n)
		}
	}
}
