package decimal_test

import (
	"math"
	"math/big"
	"testing"

	"corrody/api"
	"corrody/decimal"
)

const (
	most  = math.MaxInt64
	least = math.MinInt64
)

// answer is what the calls tell that tell a Dec or an error.
type answer struct {
	d api.Dec
	e api.Errno
}

// dec is an answer without an error.
func dec(c int64, s int) answer { return answer{d: api.Dec{C: c, S: s}} }

// bad is an answer with an error, and a zero Dec beside it.
func bad(e api.Errno) answer { return answer{e: e} }

func ten(n int) *big.Int { return new(big.Int).Exp(big.NewInt(10), big.NewInt(int64(n)), nil) }

// at is x counted in units of the ninth place; any Dec is a whole number of them.
func at(x api.Dec) *big.Int {
	return new(big.Int).Mul(big.NewInt(x.C), ten(api.MaxScale-x.S))
}

// near is n divided by d, to the nearest whole number, of two that are as near to the even one.
func near(n, d *big.Int) *big.Int {
	if d.Sign() < 0 {
		n, d = new(big.Int).Neg(n), new(big.Int).Neg(d)
	}
	q, r := new(big.Int).DivMod(n, d, new(big.Int))
	half := r.Lsh(r, 1).Cmp(d)
	if half > 0 || half == 0 && q.Bit(0) == 1 {
		q.Add(q, big.NewInt(1))
	}
	return q
}

// told is the answer of u units of the ninth place: canonical, or ErrOver.
func told(u *big.Int) answer {
	s, u := api.MaxScale, new(big.Int).Set(u)
	for s > 0 {
		q, r := new(big.Int).QuoRem(u, big.NewInt(10), new(big.Int))
		if r.Sign() != 0 {
			break
		}
		u, s = q, s-1
	}
	if !u.IsInt64() {
		return bad(api.ErrOver)
	}
	return dec(u.Int64(), s)
}

// decs are numbers at the edges and ordinary ones, at all scales: those that are not canonical are among them.
func decs() []api.Dec {
	cs := []int64{0, 1, 2, 3, 5, 7, 10, 15, 25, 95, 100, 125, 135, 999999999, 1e9, 1e10, 5e17, 1e18, 3037000499, 3037000500, most - 7, most - 1, most}
	r := uint64(88172645463325252)
	for i := range 6 {
		r ^= r << 13
		r ^= r >> 7
		r ^= r << 17
		cs = append(cs, int64(r>>(1+9*i)))
	}
	l := []api.Dec{}
	for s := range api.MaxScale + 1 {
		for _, c := range cs {
			l = append(l, api.Dec{C: c, S: s}, api.Dec{C: -c, S: s})
		}
		l = append(l, api.Dec{C: least, S: s}, api.Dec{C: least + 8, S: s})
	}
	return l
}

// none are what is no Dec, noughts and numbers at the edges among them.
func none() []api.Dec {
	l := []api.Dec{}
	for _, s := range []int{-1, -2, -9, -10, 10, 11, 19, 20, 64, math.MaxInt32, math.MinInt32, math.MaxInt, math.MinInt} {
		for _, c := range []int64{0, 1, -1, 10, most, least} {
			l = append(l, api.Dec{C: c, S: s})
		}
	}
	return l
}

// one is a call of one number, with the units of the ninth place that it should tell.
type one struct {
	name string
	call func(api.Dec) (api.Dec, api.Errno)
	want func(u *big.Int) answer
}

func ones() []one {
	return []one{
		{"Put", decimal.Put, told},
		{"Neg", decimal.Neg, func(u *big.Int) answer { return told(new(big.Int).Neg(u)) }},
		{"Abs", decimal.Abs, func(u *big.Int) answer { return told(new(big.Int).Abs(u)) }},
	}
}

// two is a call of two numbers, with what it should tell of their units of the ninth place.
type two struct {
	name string
	call func(x, y api.Dec) (api.Dec, api.Errno)
	want func(u, v *big.Int) answer
}

func twos() []two {
	return []two{
		{"Add", decimal.Add, func(u, v *big.Int) answer { return told(new(big.Int).Add(u, v)) }},
		{"Sub", decimal.Sub, func(u, v *big.Int) answer { return told(new(big.Int).Sub(u, v)) }},
		{"Mul", decimal.Mul, func(u, v *big.Int) answer { return told(near(new(big.Int).Mul(u, v), ten(9))) }},
		{"Div", decimal.Div, func(u, v *big.Int) answer {
			if v.Sign() == 0 {
				return bad(api.ErrDiv)
			}
			return told(near(new(big.Int).Mul(u, ten(9)), v))
		}},
	}
}

func TestMay(t *testing.T) { // P2.1
	for _, c := range []struct {
		x    api.Dec
		want bool
	}{
		{api.Dec{}, true},
		{api.Dec{C: 10}, true}, // a whole number may be a multiple of 10
		{api.Dec{C: -100}, true},
		{api.Dec{C: most}, true},
		{api.Dec{C: least}, true},
		{api.Dec{C: 1, S: 9}, true},
		{api.Dec{C: -15, S: 1}, true},
		{api.Dec{C: most, S: 9}, true},
		{api.Dec{C: least, S: 9}, true},
		{api.Dec{C: 0, S: 1}, false}, // 0 is a multiple of 10
		{api.Dec{C: 0, S: 9}, false},
		{api.Dec{C: 10, S: 1}, false},
		{api.Dec{C: -10, S: 9}, false},
		{api.Dec{C: least + 8, S: 3}, false},
		{api.Dec{C: 1, S: -1}, false},
		{api.Dec{C: 1, S: 10}, false},
	} {
		if got := decimal.May(c.x); got != c.want {
			t.Errorf("May(%v) = %v", c.x, got)
		}
	}
	for _, x := range decs() {
		if got, want := decimal.May(x), told(at(x)) == (answer{d: x}); got != want {
			t.Errorf("May(%v) = %v", x, got)
		}
	}
	for _, x := range none() {
		if decimal.May(x) {
			t.Errorf("May(%v) = true", x)
		}
	}
}

func TestPut(t *testing.T) { // P2.1
	for _, c := range []struct {
		x    api.Dec
		want answer
	}{
		{api.Dec{}, dec(0, 0)},
		{api.Dec{C: 0, S: 1}, dec(0, 0)},
		{api.Dec{C: 0, S: 9}, dec(0, 0)},
		{api.Dec{C: 10, S: 1}, dec(1, 0)},
		{api.Dec{C: 100, S: 1}, dec(10, 0)},
		{api.Dec{C: 100, S: 0}, dec(100, 0)},
		{api.Dec{C: -1500, S: 3}, dec(-15, 1)},
		{api.Dec{C: 1e18, S: 9}, dec(1e9, 0)},
		{api.Dec{C: most, S: 9}, dec(most, 9)},
		{api.Dec{C: least, S: 9}, dec(least, 9)},
		{api.Dec{C: least}, dec(least, 0)},
		{api.Dec{C: least + 8, S: 9}, dec(-92233720368547758, 7)},
		{api.Dec{C: 0, S: 10}, bad(api.ErrArg)},
		{api.Dec{C: 10, S: -1}, bad(api.ErrArg)},
	} {
		if d, e := decimal.Put(c.x); (answer{d, e}) != c.want {
			t.Errorf("Put(%v) = %v, %d, want %v", c.x, d, e, c.want)
		}
	}
}

func TestOf(t *testing.T) { // P2.1
	for _, n := range []int64{0, 1, -1, 10, -100, 1e18, most, least} {
		if d := decimal.Of(n); d != (api.Dec{C: n}) || !decimal.May(d) {
			t.Errorf("Of(%d) = %v", n, d)
		}
	}
}

func TestCmp(t *testing.T) { // P2.1
	for _, c := range []struct {
		x, y api.Dec
		want int
	}{
		{api.Dec{C: 1}, api.Dec{C: 2}, -1},
		{api.Dec{C: 2}, api.Dec{C: 1}, 1},
		{api.Dec{C: -2}, api.Dec{C: -1}, -1},
		{api.Dec{C: 0, S: 9}, api.Dec{}, 0},
		{api.Dec{C: 10, S: 1}, api.Dec{C: 1}, 0},
		{api.Dec{C: 1, S: 9}, api.Dec{}, 1},
		{api.Dec{C: -1, S: 9}, api.Dec{C: 0, S: 4}, -1},
		{api.Dec{C: 2, S: 1}, api.Dec{C: 19, S: 2}, 1},
		{api.Dec{C: most}, api.Dec{C: least}, 1},
		{api.Dec{C: least}, api.Dec{C: most}, -1},
		{api.Dec{C: least}, api.Dec{C: least}, 0},
		{api.Dec{C: most}, api.Dec{C: most, S: 9}, 1},
		{api.Dec{C: least}, api.Dec{C: least, S: 9}, -1},
		{api.Dec{C: most, S: 9}, api.Dec{C: 9223372037}, -1},
		{api.Dec{C: most, S: 9}, api.Dec{C: 9223372036}, 1},
	} {
		if n, e := decimal.Cmp(c.x, c.y); n != c.want || e != api.OK {
			t.Errorf("Cmp(%v, %v) = %d, %d, want %d", c.x, c.y, n, e, c.want)
		}
	}
	for _, x := range decs() {
		u := at(x)
		for _, y := range decs() {
			if n, e := decimal.Cmp(x, y); n != u.Cmp(at(y)) || e != api.OK {
				t.Fatalf("Cmp(%v, %v) = %d, %d", x, y, n, e)
			}
		}
	}
}

func TestCmpRefused(t *testing.T) { // P2.1
	for _, x := range none() {
		for _, y := range []api.Dec{{}, {C: 1, S: 9}, {C: least}, x} {
			if n, e := decimal.Cmp(x, y); n != 0 || e != api.ErrArg {
				t.Errorf("Cmp(%v, %v) = %d, %d", x, y, n, e)
			}
			if n, e := decimal.Cmp(y, x); n != 0 || e != api.ErrArg {
				t.Errorf("Cmp(%v, %v) = %d, %d", y, x, n, e)
			}
		}
	}
}

// pair is two numbers, and what a call should tell of them.
type pair struct {
	x, y api.Dec
	want answer
}

func hold(t *testing.T, name string, call func(x, y api.Dec) (api.Dec, api.Errno), l []pair) {
	t.Helper()
	for _, c := range l {
		if d, e := call(c.x, c.y); (answer{d, e}) != c.want {
			t.Errorf("%s(%v, %v) = %v, %d, want %v", name, c.x, c.y, d, e, c.want)
		}
	}
}

func TestAdd(t *testing.T) { // P2.2
	hold(t, "Add", decimal.Add, []pair{
		{api.Dec{C: 1, S: 1}, api.Dec{C: 9, S: 1}, dec(1, 0)},
		{api.Dec{C: 125, S: 2}, api.Dec{C: -5, S: 1}, dec(75, 2)},
		{api.Dec{C: 1, S: 9}, api.Dec{C: 1}, dec(1000000001, 9)},
		{api.Dec{C: 15, S: 1}, api.Dec{C: -15, S: 1}, dec(0, 0)},
		{api.Dec{C: 0, S: 9}, api.Dec{C: 0, S: 3}, dec(0, 0)},
		{api.Dec{C: 10, S: 1}, api.Dec{C: 200, S: 2}, dec(3, 0)},
		{api.Dec{C: most - 1}, api.Dec{C: 1}, dec(most, 0)},
		{api.Dec{C: most}, api.Dec{C: 1}, bad(api.ErrOver)},
		{api.Dec{C: least + 1}, api.Dec{C: -1}, dec(least, 0)},
		{api.Dec{C: least}, api.Dec{C: -1}, bad(api.ErrOver)},
		{api.Dec{C: most}, api.Dec{C: least}, dec(-1, 0)},
		{api.Dec{C: most, S: 1}, api.Dec{C: 3, S: 1}, dec(922337203685477581, 0)}, // it fits once it is canonical
		{api.Dec{C: most, S: 1}, api.Dec{C: 2, S: 1}, bad(api.ErrOver)},
		{api.Dec{C: least, S: 9}, api.Dec{C: -2, S: 9}, dec(-922337203685477581, 8)},
		{api.Dec{C: most}, api.Dec{C: 1, S: 9}, bad(api.ErrOver)}, // too many places beside its size
		{api.Dec{C: most}, api.Dec{C: 0, S: 9}, dec(most, 0)},
		{api.Dec{C: most}, api.Dec{C: most, S: 9}, bad(api.ErrOver)},
		{api.Dec{C: least}, api.Dec{C: least}, bad(api.ErrOver)},
	})
}

func TestSub(t *testing.T) { // P2.2
	hold(t, "Sub", decimal.Sub, []pair{
		{api.Dec{C: 1}, api.Dec{C: 9, S: 1}, dec(1, 1)},
		{api.Dec{C: 9, S: 1}, api.Dec{C: 1}, dec(-1, 1)},
		{api.Dec{C: 15, S: 1}, api.Dec{C: 150, S: 2}, dec(0, 0)},
		{api.Dec{C: 11, S: 1}, api.Dec{C: 1, S: 1}, dec(1, 0)},
		{api.Dec{C: -1}, api.Dec{C: least}, dec(most, 0)},
		{api.Dec{}, api.Dec{C: least}, bad(api.ErrOver)},
		{api.Dec{C: least}, api.Dec{}, dec(least, 0)},
		{api.Dec{C: least}, api.Dec{C: 1}, bad(api.ErrOver)},
		{api.Dec{C: least}, api.Dec{C: least}, dec(0, 0)},
		{api.Dec{C: most}, api.Dec{C: -1}, bad(api.ErrOver)},
		{api.Dec{C: most, S: 9}, api.Dec{C: -3, S: 9}, dec(922337203685477581, 8)},
		{api.Dec{C: least}, api.Dec{C: 1, S: 9}, bad(api.ErrOver)},
	})
}

func TestMul(t *testing.T) { // P2.2
	hold(t, "Mul", decimal.Mul, []pair{
		{api.Dec{C: 15, S: 1}, api.Dec{C: -4, S: 1}, dec(-6, 1)},
		{api.Dec{C: 5, S: 1}, api.Dec{C: 2}, dec(1, 0)},
		{api.Dec{C: -3}, api.Dec{C: 0, S: 9}, dec(0, 0)},
		{api.Dec{C: 1e10}, api.Dec{C: 1e9}, bad(api.ErrOver)},
		{api.Dec{C: 1e9}, api.Dec{C: 1e9}, dec(1e18, 0)},
		{api.Dec{C: 3037000499}, api.Dec{C: 3037000499}, dec(9223372030926249001, 0)},
		{api.Dec{C: 3037000500}, api.Dec{C: 3037000500}, bad(api.ErrOver)},
		{api.Dec{C: least}, api.Dec{C: 1}, dec(least, 0)},
		{api.Dec{C: least}, api.Dec{C: -1}, bad(api.ErrOver)},
		{api.Dec{C: least}, api.Dec{C: 1, S: 1}, dec(least, 1)},
		{api.Dec{C: least}, api.Dec{C: least}, bad(api.ErrOver)},
		{api.Dec{C: most, S: 9}, api.Dec{C: 10}, dec(most, 8)}, // it fits once it is canonical
		{api.Dec{C: most, S: 9}, api.Dec{C: 11}, bad(api.ErrOver)},
	})
}

func TestMulRounded(t *testing.T) { // P2.2
	hold(t, "Mul", decimal.Mul, []pair{
		{api.Dec{C: 1, S: 9}, api.Dec{C: 1, S: 9}, dec(0, 0)},
		{api.Dec{C: 5, S: 9}, api.Dec{C: 1, S: 1}, dec(0, 0)},
		{api.Dec{C: -5, S: 9}, api.Dec{C: 1, S: 1}, dec(0, 0)},
		{api.Dec{C: 15, S: 9}, api.Dec{C: 1, S: 1}, dec(2, 9)},
		{api.Dec{C: -15, S: 9}, api.Dec{C: 1, S: 1}, dec(-2, 9)},
		{api.Dec{C: 25, S: 9}, api.Dec{C: 1, S: 1}, dec(2, 9)},
		{api.Dec{C: 24, S: 9}, api.Dec{C: 1, S: 1}, dec(2, 9)},
		{api.Dec{C: 26, S: 9}, api.Dec{C: -1, S: 1}, dec(-3, 9)},
		{api.Dec{C: 95, S: 9}, api.Dec{C: 1, S: 1}, dec(1, 8)},
		{api.Dec{C: 250000001, S: 9}, api.Dec{C: 10, S: 9}, dec(3, 9)},                // just above a half
		{api.Dec{C: 249999999, S: 9}, api.Dec{C: 10, S: 9}, dec(2, 9)},                // just below one
		{api.Dec{C: 1490000000, S: 9}, api.Dec{C: 1, S: 9}, dec(1, 9)},                // a half only if rounded twice
		{api.Dec{C: 67280421310721, S: 9}, api.Dec{C: -1370885, S: 1}, dec(least, 9)}, // 2^63 and a half: to the even one, that fits
		{api.Dec{C: 67280421310721, S: 9}, api.Dec{C: 1370885, S: 1}, bad(api.ErrOver)},
		{api.Dec{C: 4294967295, S: 9}, api.Dec{C: -21474836485, S: 1}, dec(least, 9)}, // 2^63 less a half: to the even one, 2^63
		{api.Dec{C: 4294967295, S: 9}, api.Dec{C: 21474836485, S: 1}, bad(api.ErrOver)},
	})
}

func TestDiv(t *testing.T) { // P2.2
	hold(t, "Div", decimal.Div, []pair{
		{api.Dec{C: 1}, api.Dec{C: 3}, dec(333333333, 9)},
		{api.Dec{C: 2}, api.Dec{C: 3}, dec(666666667, 9)},
		{api.Dec{C: -2}, api.Dec{C: 3}, dec(-666666667, 9)},
		{api.Dec{C: 2}, api.Dec{C: -3}, dec(-666666667, 9)},
		{api.Dec{C: -2}, api.Dec{C: -3}, dec(666666667, 9)},
		{api.Dec{C: 1}, api.Dec{C: 4}, dec(25, 2)},
		{api.Dec{C: 10, S: 1}, api.Dec{C: 50, S: 2}, dec(2, 0)},
		{api.Dec{C: 0, S: 9}, api.Dec{C: -7}, dec(0, 0)},
		{api.Dec{C: 1, S: 9}, api.Dec{C: 2}, dec(0, 0)},
		{api.Dec{C: -1, S: 9}, api.Dec{C: 2}, dec(0, 0)},
		{api.Dec{C: 3, S: 9}, api.Dec{C: 2}, dec(2, 9)},
		{api.Dec{C: -3, S: 9}, api.Dec{C: 2}, dec(-2, 9)},
		{api.Dec{C: 5, S: 9}, api.Dec{C: -2}, dec(-2, 9)},
		{api.Dec{C: 19, S: 9}, api.Dec{C: 2}, dec(1, 8)},
		{api.Dec{C: 1}, api.Dec{C: 1, S: 9}, dec(1e9, 0)},
		{api.Dec{C: 9e9}, api.Dec{C: 1, S: 9}, dec(9e18, 0)},
		{api.Dec{C: 1e10}, api.Dec{C: 1, S: 9}, bad(api.ErrOver)},
		{api.Dec{C: most}, api.Dec{C: 1, S: 9}, bad(api.ErrOver)},
		{api.Dec{C: most}, api.Dec{C: 1e9}, dec(most, 9)},
		{api.Dec{C: 1e10}, api.Dec{C: 3}, dec(3333333333333333333, 9)},
		{api.Dec{C: 1e11}, api.Dec{C: 3}, bad(api.ErrOver)}, // too many places beside its size
		{api.Dec{C: least}, api.Dec{C: 1}, dec(least, 0)},
		{api.Dec{C: least}, api.Dec{C: -1}, bad(api.ErrOver)},
		{api.Dec{C: least}, api.Dec{C: least}, dec(1, 0)},
		{api.Dec{C: most, S: 9}, api.Dec{C: least}, dec(-1, 9)},
		{api.Dec{C: 1}, api.Dec{C: least}, dec(0, 0)},
		{api.Dec{C: 3689348814741910323, S: 8}, api.Dec{C: -4}, dec(least, 9)}, // 2^63 less a half: to the even one, 2^63
		{api.Dec{C: 3689348814741910323, S: 8}, api.Dec{C: 4}, bad(api.ErrOver)},
		{api.Dec{C: 1}, api.Dec{}, bad(api.ErrDiv)},
		{api.Dec{}, api.Dec{}, bad(api.ErrDiv)},
		{api.Dec{C: least}, api.Dec{C: 0, S: 9}, bad(api.ErrDiv)},
	})
}

func TestNegAbs(t *testing.T) { // P2.2
	for _, c := range []struct {
		x        api.Dec
		neg, abs answer
	}{
		{api.Dec{}, dec(0, 0), dec(0, 0)},
		{api.Dec{C: 0, S: 9}, dec(0, 0), dec(0, 0)},
		{api.Dec{C: 15, S: 1}, dec(-15, 1), dec(15, 1)},
		{api.Dec{C: -15, S: 1}, dec(15, 1), dec(15, 1)},
		{api.Dec{C: -10, S: 1}, dec(1, 0), dec(1, 0)},
		{api.Dec{C: 10, S: 1}, dec(-1, 0), dec(1, 0)},
		{api.Dec{C: most, S: 9}, dec(-most, 9), dec(most, 9)},
		{api.Dec{C: -most}, dec(most, 0), dec(most, 0)},
		{api.Dec{C: least}, bad(api.ErrOver), bad(api.ErrOver)},
		{api.Dec{C: least, S: 9}, bad(api.ErrOver), bad(api.ErrOver)}, // exact, so not rounded until it fits
		{api.Dec{C: least + 8, S: 9}, dec(92233720368547758, 7), dec(92233720368547758, 7)},
	} {
		if d, e := decimal.Neg(c.x); (answer{d, e}) != c.neg {
			t.Errorf("Neg(%v) = %v, %d, want %v", c.x, d, e, c.neg)
		}
		if d, e := decimal.Abs(c.x); (answer{d, e}) != c.abs {
			t.Errorf("Abs(%v) = %v, %d, want %v", c.x, d, e, c.abs)
		}
	}
}

func TestRound(t *testing.T) { // P2.3
	for _, c := range []struct {
		x    api.Dec
		s    int
		want answer
	}{
		{api.Dec{C: 125, S: 3}, 2, dec(12, 2)},
		{api.Dec{C: 135, S: 3}, 2, dec(14, 2)},
		{api.Dec{C: -125, S: 3}, 2, dec(-12, 2)},
		{api.Dec{C: -135, S: 3}, 2, dec(-14, 2)},
		{api.Dec{C: 1251, S: 4}, 2, dec(13, 2)},
		{api.Dec{C: 1349, S: 4}, 2, dec(13, 2)},
		{api.Dec{C: 5, S: 1}, 0, dec(0, 0)},
		{api.Dec{C: -5, S: 1}, 0, dec(0, 0)},
		{api.Dec{C: 15, S: 1}, 0, dec(2, 0)},
		{api.Dec{C: 25, S: 1}, 0, dec(2, 0)},
		{api.Dec{C: -35, S: 1}, 0, dec(-4, 0)},
		{api.Dec{C: 149, S: 2}, 0, dec(1, 0)},
		{api.Dec{C: 95, S: 2}, 1, dec(1, 0)}, // the even last place is a nought, which goes
		{api.Dec{C: 999999999, S: 9}, 8, dec(1, 0)},
		{api.Dec{C: 120, S: 2}, 1, dec(12, 1)},
		{api.Dec{C: 120, S: 2}, 5, dec(12, 1)},
		{api.Dec{C: 0, S: 9}, 3, dec(0, 0)},
		{api.Dec{C: 15, S: 1}, 1, dec(15, 1)},
		{api.Dec{C: 15, S: 1}, 9, dec(15, 1)},
		{api.Dec{C: 123456789, S: 9}, 9, dec(123456789, 9)},
		{api.Dec{C: 70}, 0, dec(70, 0)},
		{api.Dec{C: most}, 0, dec(most, 0)},
		{api.Dec{C: most}, 9, dec(most, 0)},
		{api.Dec{C: least}, 9, dec(least, 0)},
		{api.Dec{C: least, S: 9}, 9, dec(least, 9)},
		{api.Dec{C: most, S: 9}, 8, dec(922337203685477581, 8)},
		{api.Dec{C: least, S: 9}, 0, dec(-9223372037, 0)},
		{api.Dec{C: most, S: 9}, 0, dec(9223372037, 0)},
		{api.Dec{C: 1, S: 9}, 0, dec(0, 0)},
		{api.Dec{C: 15, S: 1}, -1, bad(api.ErrArg)},
		{api.Dec{C: 15, S: 1}, 10, bad(api.ErrArg)},
		{api.Dec{C: 15, S: 1}, math.MaxInt, bad(api.ErrArg)},
		{api.Dec{C: 15, S: 1}, math.MinInt, bad(api.ErrArg)},
	} {
		if d, e := decimal.Round(c.x, c.s); (answer{d, e}) != c.want {
			t.Errorf("Round(%v, %d) = %v, %d, want %v", c.x, c.s, d, e, c.want)
		}
	}
	for _, x := range decs() {
		for s := range api.MaxScale + 1 {
			unit := ten(api.MaxScale - s)
			want := told(new(big.Int).Mul(near(at(x), unit), unit))
			if d, e := decimal.Round(x, s); (answer{d, e}) != want {
				t.Errorf("Round(%v, %d) = %v, %d, want %v", x, s, d, e, want)
			}
		}
	}
}

// TestRoundRefused: what is no Dec, and places outside of 0 to 9.
func TestRoundRefused(t *testing.T) { // P2.3
	for _, x := range none() {
		for s := -2; s <= 11; s++ {
			if d, e := decimal.Round(x, s); (answer{d, e}) != bad(api.ErrArg) {
				t.Errorf("Round(%v, %d) = %v, %d", x, s, d, e)
			}
		}
	}
	for _, x := range decs() {
		for _, s := range []int{-1, 10, 64, -64} {
			if d, e := decimal.Round(x, s); (answer{d, e}) != bad(api.ErrArg) {
				t.Errorf("Round(%v, %d) = %v, %d", x, s, d, e)
			}
		}
	}
}

// TestOnes holds the calls of one number against whole numbers without a bound.
func TestOnes(t *testing.T) { // P2.1, P2.2
	for _, c := range ones() {
		for _, x := range decs() {
			want := c.want(at(x))
			if d, e := c.call(x); (answer{d, e}) != want {
				t.Errorf("%s(%v) = %v, %d, want %v", c.name, x, d, e, want)
			}
		}
		for _, x := range none() {
			if d, e := c.call(x); (answer{d, e}) != bad(api.ErrArg) {
				t.Errorf("%s(%v) = %v, %d", c.name, x, d, e)
			}
		}
	}
}

// TestTwos holds the calls of two numbers against whole numbers without a bound.
func TestTwos(t *testing.T) { // P2.2
	l := decs()
	us := make([]*big.Int, len(l))
	for i, x := range l {
		us[i] = at(x)
	}
	for _, c := range twos() {
		for i, x := range l {
			for j, y := range l {
				want := c.want(us[i], us[j])
				if d, e := c.call(x, y); (answer{d, e}) != want {
					t.Fatalf("%s(%v, %v) = %v, %d, want %v", c.name, x, y, d, e, want)
				}
			}
		}
	}
}

// TestTwosRefused: ErrArg is ahead of all else, of a divisor of 0 and of what is over among them.
func TestTwosRefused(t *testing.T) { // P2.2
	for _, c := range twos() {
		for _, x := range none() {
			for _, y := range []api.Dec{{}, {C: 0, S: 9}, {C: 1, S: 9}, {C: most}, {C: least}, x} {
				if d, e := c.call(x, y); (answer{d, e}) != bad(api.ErrArg) {
					t.Errorf("%s(%v, %v) = %v, %d", c.name, x, y, d, e)
				}
				if d, e := c.call(y, x); (answer{d, e}) != bad(api.ErrArg) {
					t.Errorf("%s(%v, %v) = %v, %d", c.name, y, x, d, e)
				}
			}
		}
	}
}
