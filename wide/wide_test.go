package wide_test

import (
	"math"
	"math/big"
	"testing"

	"corrody/api"
	"corrody/wide"
)

const full = math.MaxUint64

var (
	greatest = api.Wide{Hi: full, Lo: full}
	least    = api.Wide{Neg: true, Hi: full, Lo: full}
	negZero  = api.Wide{Neg: true}
)

// worth is the number that x stands for, canonical or not.
func worth(x api.Wide) *big.Int {
	b := new(big.Int).SetUint64(x.Hi)
	b.Lsh(b, 64).Add(b, new(big.Int).SetUint64(x.Lo))
	if x.Neg {
		b.Neg(b)
	}
	return b
}

// canon is the canonical Wide of b; ok is false if b needs more than 128 bits.
func canon(b *big.Int) (x api.Wide, ok bool) {
	if b.BitLen() > 128 {
		return api.Wide{}, false
	}
	a := new(big.Int).Abs(b)
	lo := new(big.Int).And(a, new(big.Int).SetUint64(full))
	return api.Wide{Neg: b.Sign() < 0, Hi: new(big.Int).Rsh(a, 64).Uint64(), Lo: lo.Uint64()}, true
}

// words are 64 bits at the edges, and some that are ordinary.
func words() []uint64 {
	l := []uint64{0, 1, 2, 3, 5, 7, 10, 15, 25, 100, 1e9, 1e19, 1 << 32, 1<<62 - 1, 1 << 62, 1<<63 - 1, 1 << 63, 1<<63 + 1, full - 1, full}
	s := uint64(88172645463325252)
	for range 6 {
		s ^= s << 13
		s ^= s >> 7
		s ^= s << 17
		l = append(l, s, s>>23)
	}
	return l
}

// wides are all pairs of words, with both signs: a nought that is Neg is among them.
func wides() []api.Wide {
	var l []api.Wide
	for _, hi := range words() {
		for _, lo := range words() {
			l = append(l, api.Wide{Hi: hi, Lo: lo}, api.Wide{Neg: true, Hi: hi, Lo: lo})
		}
	}
	return l
}

// ints are the words as int64s, and their negatives.
func ints() []int64 {
	var l []int64
	for _, w := range words() {
		l = append(l, int64(w), -int64(w))
	}
	return l
}

func TestOf(t *testing.T) { // P1.1
	for _, c := range []struct {
		n    int64
		want api.Wide
	}{
		{0, api.Wide{}},
		{1, api.Wide{Lo: 1}},
		{-1, api.Wide{Neg: true, Lo: 1}},
		{math.MaxInt64, api.Wide{Lo: 1<<63 - 1}},
		{math.MinInt64, api.Wide{Neg: true, Lo: 1 << 63}},
	} {
		if x := wide.Of(c.n); x != c.want {
			t.Errorf("Of(%d) = %v, want %v", c.n, x, c.want)
		}
	}
	for _, n := range ints() {
		if want, _ := canon(big.NewInt(n)); wide.Of(n) != want {
			t.Errorf("Of(%d) = %v, want %v", n, wide.Of(n), want)
		}
	}
}

func TestSmall(t *testing.T) { // P1.1
	for _, c := range []struct {
		x    api.Wide
		want int64
		ok   bool
	}{
		{api.Wide{}, 0, true},
		{negZero, 0, true},
		{api.Wide{Lo: 7}, 7, true},
		{api.Wide{Neg: true, Lo: 7}, -7, true},
		{api.Wide{Lo: 1<<63 - 1}, math.MaxInt64, true},
		{api.Wide{Lo: 1 << 63}, 0, false},
		{api.Wide{Neg: true, Lo: 1 << 63}, math.MinInt64, true},
		{api.Wide{Neg: true, Lo: 1<<63 + 1}, 0, false},
		{api.Wide{Hi: 1}, 0, false},
		{api.Wide{Neg: true, Hi: 1}, 0, false},
		{greatest, 0, false},
		{least, 0, false},
	} {
		if n, ok := wide.Small(c.x); n != c.want || ok != c.ok {
			t.Errorf("Small(%v) = %d, %v, want %d, %v", c.x, n, ok, c.want, c.ok)
		}
	}
	for _, x := range wides() {
		b, want := worth(x), int64(0)
		if b.IsInt64() {
			want = b.Int64()
		}
		if n, ok := wide.Small(x); n != want || ok != b.IsInt64() {
			t.Errorf("Small(%v) = %d, %v", x, n, ok)
		}
	}
}

func TestMul(t *testing.T) { // P1.1
	for _, c := range []struct {
		a, b int64
		want api.Wide
	}{
		{1 << 62, 4, api.Wide{Hi: 1}},
		{3, -5, api.Wide{Neg: true, Lo: 15}},
		{-3, -5, api.Wide{Lo: 15}},
		{-3, 0, api.Wide{}},
		{0, math.MinInt64, api.Wide{}},
		{math.MinInt64, -1, api.Wide{Lo: 1 << 63}},
		{math.MinInt64, math.MinInt64, api.Wide{Hi: 1 << 62}},
		{math.MinInt64, math.MaxInt64, api.Wide{Neg: true, Hi: 1<<62 - 1, Lo: 1 << 63}},
	} {
		if x := wide.Mul(c.a, c.b); x != c.want {
			t.Errorf("Mul(%d, %d) = %v, want %v", c.a, c.b, x, c.want)
		}
	}
	for _, a := range ints() {
		for _, b := range ints() {
			want, _ := canon(new(big.Int).Mul(big.NewInt(a), big.NewInt(b)))
			if x := wide.Mul(a, b); x != want {
				t.Errorf("Mul(%d, %d) = %v, want %v", a, b, x, want)
			}
		}
	}
}

func TestNeg(t *testing.T) { // P1.1
	for _, c := range []struct{ x, want api.Wide }{
		{api.Wide{}, api.Wide{}},
		{negZero, api.Wide{}},
		{api.Wide{Lo: 1}, api.Wide{Neg: true, Lo: 1}},
		{api.Wide{Neg: true, Hi: 1}, api.Wide{Hi: 1}},
		{greatest, least},
		{least, greatest},
	} {
		if x := wide.Neg(c.x); x != c.want {
			t.Errorf("Neg(%v) = %v, want %v", c.x, x, c.want)
		}
	}
	for _, x := range wides() {
		if want, _ := canon(new(big.Int).Neg(worth(x))); wide.Neg(x) != want {
			t.Errorf("Neg(%v) = %v, want %v", x, wide.Neg(x), want)
		}
	}
}

func TestCmp(t *testing.T) { // P1.1
	for _, c := range []struct {
		x, y api.Wide
		want int
	}{
		{wide.Of(-2), wide.Of(-1), -1},
		{wide.Of(2), wide.Of(1), 1},
		{wide.Of(-1), wide.Of(1), -1},
		{negZero, api.Wide{}, 0},
		{api.Wide{}, negZero, 0},
		{negZero, wide.Of(-1), 1},
		{wide.Of(1), negZero, 1},
		{api.Wide{Hi: 1}, api.Wide{Lo: full}, 1},
		{api.Wide{Neg: true, Hi: 1}, api.Wide{Neg: true, Lo: full}, -1},
		{least, greatest, -1},
		{greatest, greatest, 0},
		{least, least, 0},
	} {
		if n := wide.Cmp(c.x, c.y); n != c.want {
			t.Errorf("Cmp(%v, %v) = %d, want %d", c.x, c.y, n, c.want)
		}
	}
	for _, x := range wides() {
		bx := worth(x)
		for _, y := range wides() {
			if n := wide.Cmp(x, y); n != bx.Cmp(worth(y)) {
				t.Fatalf("Cmp(%v, %v) = %d", x, y, n)
			}
		}
	}
}

// wideAnswer is one of the calls that tell a Wide or an error.
type wideAnswer struct {
	x api.Wide
	e api.Errno
}

// over is the answer whose worth is b: ErrOver and a zero Wide, if it needs more than 128 bits.
func over(b *big.Int) wideAnswer {
	if x, ok := canon(b); ok {
		return wideAnswer{x, api.OK}
	}
	return wideAnswer{api.Wide{}, api.ErrOver}
}

func TestTimes(t *testing.T) { // P1.2
	for _, c := range []struct {
		x    api.Wide
		n    uint64
		want wideAnswer
	}{
		{wide.Of(-7), 6, wideAnswer{x: wide.Of(-42)}},
		{least, 0, wideAnswer{}},
		{negZero, 9, wideAnswer{}},
		{least, 1, wideAnswer{x: least}},
		{api.Wide{Lo: full}, full, wideAnswer{x: api.Wide{Hi: full - 1, Lo: 1}}},
		{api.Wide{Hi: 1, Lo: 1}, full, wideAnswer{x: greatest}},
		{api.Wide{Hi: 1, Lo: 2}, full, wideAnswer{e: api.ErrOver}}, // the carry alone is too much
		{api.Wide{Hi: 1<<63 - 1, Lo: full}, 2, wideAnswer{x: api.Wide{Hi: full, Lo: full - 1}}},
		{api.Wide{Hi: 1 << 63}, 2, wideAnswer{e: api.ErrOver}},
		{api.Wide{Neg: true, Hi: 1 << 63}, 2, wideAnswer{e: api.ErrOver}},
		{greatest, full, wideAnswer{e: api.ErrOver}},
	} {
		if x, e := wide.Times(c.x, c.n); (wideAnswer{x, e}) != c.want {
			t.Errorf("Times(%v, %d) = %v, %d, want %v", c.x, c.n, x, e, c.want)
		}
	}
	for _, x := range wides() {
		for _, n := range words() {
			want := over(new(big.Int).Mul(worth(x), new(big.Int).SetUint64(n)))
			if y, e := wide.Times(x, n); (wideAnswer{y, e}) != want {
				t.Fatalf("Times(%v, %d) = %v, %d, want %v", x, n, y, e, want)
			}
		}
	}
}

func TestAdd(t *testing.T) { // P1.2
	for _, c := range []struct {
		x, y api.Wide
		want wideAnswer
	}{
		{wide.Of(5), wide.Of(-8), wideAnswer{x: wide.Of(-3)}},
		{wide.Of(-5), wide.Of(8), wideAnswer{x: wide.Of(3)}},
		{wide.Of(-5), wide.Of(-8), wideAnswer{x: wide.Of(-13)}},
		{wide.Of(-5), wide.Of(5), wideAnswer{}},
		{negZero, negZero, wideAnswer{}},
		{negZero, api.Wide{}, wideAnswer{}},
		{negZero, wide.Of(4), wideAnswer{x: wide.Of(4)}},
		{api.Wide{Lo: full}, wide.Of(1), wideAnswer{x: api.Wide{Hi: 1}}},
		{api.Wide{Hi: 1}, wide.Of(-1), wideAnswer{x: api.Wide{Lo: full}}},
		{api.Wide{Hi: full, Lo: full - 1}, wide.Of(1), wideAnswer{x: greatest}},
		{greatest, wide.Of(1), wideAnswer{e: api.ErrOver}},
		{least, wide.Of(-1), wideAnswer{e: api.ErrOver}},
		{greatest, greatest, wideAnswer{e: api.ErrOver}},
		{greatest, least, wideAnswer{}},
		{least, wide.Of(1), wideAnswer{x: api.Wide{Neg: true, Hi: full, Lo: full - 1}}},
	} {
		if x, e := wide.Add(c.x, c.y); (wideAnswer{x, e}) != c.want {
			t.Errorf("Add(%v, %v) = %v, %d, want %v", c.x, c.y, x, e, c.want)
		}
	}
	for _, x := range wides() {
		bx := worth(x)
		for _, y := range wides() {
			want := over(new(big.Int).Add(bx, worth(y)))
			if z, e := wide.Add(x, y); (wideAnswer{z, e}) != want {
				t.Fatalf("Add(%v, %v) = %v, %d, want %v", x, y, z, e, want)
			}
		}
	}
}

// divAnswer is what Div tells.
type divAnswer struct {
	q api.Wide
	r uint64
	e api.Errno
}

func TestDiv(t *testing.T) { // P1.3
	for _, c := range []struct {
		x    api.Wide
		d    uint64
		want divAnswer
	}{
		{wide.Of(17), 5, divAnswer{q: wide.Of(3), r: 2}},
		{wide.Of(-17), 5, divAnswer{q: wide.Of(-3), r: 2}},
		{wide.Of(-3), 5, divAnswer{r: 3}}, // a quotient of nought is not Neg
		{negZero, 5, divAnswer{}},
		{greatest, 1, divAnswer{q: greatest}},
		{least, full, divAnswer{q: api.Wide{Neg: true, Hi: 1, Lo: 1}}},
		{greatest, 2, divAnswer{q: api.Wide{Hi: 1<<63 - 1, Lo: full}, r: 1}},
		{api.Wide{Hi: 1}, full, divAnswer{q: wide.Of(1), r: 1}},
		{wide.Of(17), 0, divAnswer{e: api.ErrDiv}},
		{least, 0, divAnswer{e: api.ErrDiv}},
		{api.Wide{}, 0, divAnswer{e: api.ErrDiv}},
	} {
		if q, r, e := wide.Div(c.x, c.d); (divAnswer{q, r, e}) != c.want {
			t.Errorf("Div(%v, %d) = %v, %d, %d, want %v", c.x, c.d, q, r, e, c.want)
		}
	}
	for _, x := range wides() {
		for _, d := range words() {
			q, r, e := wide.Div(x, d)
			if got, want := (divAnswer{q, r, e}), bigDiv(x, d); got != want {
				t.Fatalf("Div(%v, %d) = %v, want %v", x, d, got, want)
			}
		}
	}
}

// bigDiv is what Div should tell: big's quotient is cut towards nought, its rest has the sign of x.
func bigDiv(x api.Wide, d uint64) divAnswer {
	if d == 0 {
		return divAnswer{e: api.ErrDiv}
	}
	b, r := new(big.Int).QuoRem(worth(x), new(big.Int).SetUint64(d), new(big.Int))
	q, _ := canon(b)
	return divAnswer{q: q, r: r.Abs(r).Uint64()}
}

func TestEven(t *testing.T) { // P1.3
	for _, c := range []struct {
		x    api.Wide
		d    uint64
		want wideAnswer
	}{
		{wide.Of(5), 10, wideAnswer{}},
		{wide.Of(15), 10, wideAnswer{x: wide.Of(2)}},
		{wide.Of(25), 10, wideAnswer{x: wide.Of(2)}},
		{wide.Of(-5), 10, wideAnswer{}},
		{wide.Of(-15), 10, wideAnswer{x: wide.Of(-2)}},
		{wide.Of(-25), 10, wideAnswer{x: wide.Of(-2)}},
		{wide.Of(-35), 10, wideAnswer{x: wide.Of(-4)}},
		{wide.Of(4), 10, wideAnswer{}},
		{wide.Of(6), 10, wideAnswer{x: wide.Of(1)}},
		{wide.Of(-6), 10, wideAnswer{x: wide.Of(-1)}},
		{wide.Of(-4), 10, wideAnswer{}},
		{wide.Of(20), 10, wideAnswer{x: wide.Of(2)}},
		{wide.Of(1), 3, wideAnswer{}},
		{wide.Of(5), 3, wideAnswer{x: wide.Of(2)}},
		{negZero, 10, wideAnswer{}},
		{least, 1, wideAnswer{x: least}},
		{greatest, 2, wideAnswer{x: api.Wide{Hi: 1 << 63}}}, // rounds up through both words
		{api.Wide{Lo: 1 << 63}, full, wideAnswer{x: wide.Of(1)}},
		{api.Wide{Lo: 1<<63 - 1}, full, wideAnswer{}},
		{api.Wide{Lo: full - 1}, full, wideAnswer{x: wide.Of(1)}}, // twice what is left needs 65 bits
		{wide.Of(5), 0, wideAnswer{e: api.ErrDiv}},
		{least, 0, wideAnswer{e: api.ErrDiv}},
	} {
		if x, e := wide.Even(c.x, c.d); (wideAnswer{x, e}) != c.want {
			t.Errorf("Even(%v, %d) = %v, %d, want %v", c.x, c.d, x, e, c.want)
		}
	}
	for _, x := range wides() {
		for _, d := range words() {
			if q, e := wide.Even(x, d); (wideAnswer{q, e}) != bigEven(x, d) {
				t.Fatalf("Even(%v, %d) = %v, %d, want %v", x, d, q, e, bigEven(x, d))
			}
		}
	}
}

// bigFloor is the quotient rounded towards below, and what is left, from nought on: big's DivMod, as d is above nought.
func bigFloor(x api.Wide, d uint64) (q, r *big.Int) {
	return new(big.Int).DivMod(worth(x), new(big.Int).SetUint64(d), new(big.Int))
}

// bigEven is what Even should tell: the quotient towards below, or the one above it, whichever is nearer, or even.
func bigEven(x api.Wide, d uint64) wideAnswer {
	if d == 0 {
		return wideAnswer{e: api.ErrDiv}
	}
	q, r := bigFloor(x, d)
	half := r.Lsh(r, 1).Cmp(new(big.Int).SetUint64(d))
	if half > 0 || half == 0 && q.Bit(0) == 1 {
		q.Add(q, big.NewInt(1))
	}
	return over(q)
}

func TestFloor(t *testing.T) { // P1.3
	for _, c := range []struct {
		x    api.Wide
		d    uint64
		want wideAnswer
	}{
		{wide.Of(-1), 10, wideAnswer{x: wide.Of(-1)}},
		{wide.Of(1), 10, wideAnswer{}},
		{wide.Of(19), 10, wideAnswer{x: wide.Of(1)}},
		{wide.Of(-19), 10, wideAnswer{x: wide.Of(-2)}},
		{wide.Of(-11), 10, wideAnswer{x: wide.Of(-2)}},
		{wide.Of(-20), 10, wideAnswer{x: wide.Of(-2)}},
		{negZero, 10, wideAnswer{}},
		{least, 1, wideAnswer{x: least}},
		{least, 2, wideAnswer{x: api.Wide{Neg: true, Hi: 1 << 63}}},
		{greatest, 2, wideAnswer{x: api.Wide{Hi: 1<<63 - 1, Lo: full}}},
		{wide.Of(-1), full, wideAnswer{x: wide.Of(-1)}},
		{wide.Of(-1), 0, wideAnswer{e: api.ErrDiv}},
		{greatest, 0, wideAnswer{e: api.ErrDiv}},
	} {
		if x, e := wide.Floor(c.x, c.d); (wideAnswer{x, e}) != c.want {
			t.Errorf("Floor(%v, %d) = %v, %d, want %v", c.x, c.d, x, e, c.want)
		}
	}
	for _, x := range wides() {
		for _, d := range words() {
			want := wideAnswer{e: api.ErrDiv}
			if d != 0 {
				q, _ := bigFloor(x, d)
				want = over(q)
			}
			if q, e := wide.Floor(x, d); (wideAnswer{q, e}) != want {
				t.Fatalf("Floor(%v, %d) = %v, %d, want %v", x, d, q, e, want)
			}
		}
	}
}

func TestTen(t *testing.T) { // P1.3
	for _, c := range []struct {
		n    int
		want uint64
	}{
		{0, 1}, {1, 10}, {2, 100}, {9, 1000000000}, {18, 1000000000000000000}, {19, 10000000000000000000},
		{20, 0}, {-1, 0}, {64, 0}, {math.MaxInt, 0}, {math.MinInt, 0},
	} {
		if p := wide.Ten(c.n); p != c.want {
			t.Errorf("Ten(%d) = %d, want %d", c.n, p, c.want)
		}
	}
	for n := 1; n <= 19; n++ {
		if wide.Ten(n) != 10*wide.Ten(n-1) {
			t.Errorf("Ten(%d) = %d", n, wide.Ten(n))
		}
	}
}

// TestBack: quotient times divisor and what is left are the number (what follows from P1.2 and P1.3).
func TestBack(t *testing.T) {
	for _, x := range wides() {
		for _, d := range words() {
			q, r, e := wide.Div(x, d)
			if e != api.OK {
				continue
			}
			y, e := wide.Times(q, d)
			if e != api.OK {
				t.Fatalf("Times(%v, %d): %d", q, d, e)
			}
			z, e := wide.Add(y, api.Wide{Neg: x.Neg, Lo: r})
			if e != api.OK || wide.Cmp(z, x) != 0 || r >= d {
				t.Fatalf("%v by %d: %v and %d are %v, %d", x, d, q, r, z, e)
			}
		}
	}
}
