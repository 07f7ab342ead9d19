// Package wide is layer 1: see shared/doc/01-wide.md.
package wide

import (
	"math/bits"

	"corrody/api"
)

// maxTen is the greatest power of ten that a uint64 holds.
const maxTen = 19

// canonical drops the sign of nought, so that equal numbers are equal structs.
func canonical(neg bool, hi, lo uint64) api.Wide {
	return api.Wide{Neg: neg && hi|lo != 0, Hi: hi, Lo: lo}
}

// size is a number without its sign. The least int64 has none among the int64s: it is turned as a uint64, which wraps round to 2^63.
func size(n int64) uint64 {
	if n < 0 {
		return -uint64(n)
	}
	return uint64(n)
}

// cmpSize compares two numbers without their signs.
func cmpSize(x, y api.Wide) int {
	switch {
	case x.Hi < y.Hi || x.Hi == y.Hi && x.Lo < y.Lo:
		return -1
	case x.Hi == y.Hi && x.Lo == y.Lo:
		return 0
	}
	return 1
}

// Of is the number n.
func Of(n int64) api.Wide { return canonical(n < 0, 0, size(n)) }

// Small is the number, and whether it is an int64.
func Small(x api.Wide) (int64, bool) {
	const half = 1 << 63 // the int64s reach one further below nought than above it
	if x.Hi == 0 && x.Neg && x.Lo <= half {
		return int64(-x.Lo), true
	}
	if x.Hi == 0 && !x.Neg && x.Lo < half {
		return int64(x.Lo), true
	}
	return 0, false
}

// Mul is the product; two int64s never need more than 127 bits.
func Mul(a, b int64) api.Wide {
	hi, lo := bits.Mul64(size(a), size(b))
	return canonical((a < 0) != (b < 0), hi, lo)
}

// Times is the product, or ErrOver.
func Times(x api.Wide, n uint64) (api.Wide, api.Errno) {
	carry, lo := bits.Mul64(x.Lo, n)
	over, high := bits.Mul64(x.Hi, n)
	hi, more := bits.Add64(high, carry, 0)
	if over|more != 0 {
		return api.Wide{}, api.ErrOver
	}
	return canonical(x.Neg, hi, lo), api.OK
}

// Add is the sum, or ErrOver.
func Add(x, y api.Wide) (api.Wide, api.Errno) {
	if x.Neg != y.Neg {
		return apart(x, y), api.OK
	}
	lo, carry := bits.Add64(x.Lo, y.Lo, 0)
	hi, over := bits.Add64(x.Hi, y.Hi, carry)
	if over != 0 {
		return api.Wide{}, api.ErrOver
	}
	return canonical(x.Neg, hi, lo), api.OK
}

// apart is the sum of two numbers of unlike signs: the lesser size is taken off the greater one, whose sign holds.
func apart(x, y api.Wide) api.Wide {
	if cmpSize(x, y) < 0 {
		x, y = y, x
	}
	lo, borrow := bits.Sub64(x.Lo, y.Lo, 0)
	hi, _ := bits.Sub64(x.Hi, y.Hi, borrow)
	return canonical(x.Neg, hi, lo)
}

// Neg is the number with the other sign.
func Neg(x api.Wide) api.Wide { return canonical(!x.Neg, x.Hi, x.Lo) }

// Cmp is -1, 0 or 1, as x is below, equal to or above y.
func Cmp(x, y api.Wide) int {
	// A nought that is Neg must not count as below one that is not.
	x, y = canonical(x.Neg, x.Hi, x.Lo), canonical(y.Neg, y.Hi, y.Lo)
	switch {
	case x.Neg && y.Neg:
		return cmpSize(y, x)
	case x.Neg:
		return -1
	case y.Neg:
		return 1
	}
	return cmpSize(x, y)
}

// Div is x without its sign divided by d, rounded down, with the sign of x, and what is left; or ErrDiv.
func Div(x api.Wide, d uint64) (q api.Wide, r uint64, e api.Errno) {
	if d == 0 {
		return api.Wide{}, 0, api.ErrDiv
	}
	hi := x.Hi / d
	lo, left := bits.Div64(x.Hi%d, x.Lo, d)
	return canonical(x.Neg, hi, lo), left, api.OK
}

// rounded is x divided by d; up says of the quotient and what is left whether the quotient grows by one in size.
// What is left is nought if d is 1, so a quotient that grows has at most 127 bits, and room.
func rounded(x api.Wide, d uint64, up func(q api.Wide, left uint64) bool) (api.Wide, api.Errno) {
	q, left, e := Div(x, d)
	if e != api.OK || !up(q, left) {
		return q, e
	}
	lo, carry := bits.Add64(q.Lo, 1, 0)
	// The sign is that of x, since a quotient of nought has lost it.
	return canonical(x.Neg, q.Hi+carry, lo), api.OK
}

// Even is x divided by d, rounded to the nearest whole number, of two that are as near to the even one; or ErrDiv.
func Even(x api.Wide, d uint64) (api.Wide, api.Errno) {
	return rounded(x, d, func(q api.Wide, left uint64) bool {
		rest := d - left // left is held against this one, since twice left may need 65 bits
		return left > rest || left == rest && q.Lo%2 == 1
	})
}

// Floor is x divided by d, rounded down, towards below; or ErrDiv.
func Floor(x api.Wide, d uint64) (api.Wide, api.Errno) {
	return rounded(x, d, func(_ api.Wide, left uint64) bool {
		return x.Neg && left != 0
	})
}

// Ten is 10 to the power n, n 0 to 19; 0 of another n.
func Ten(n int) uint64 {
	if n < 0 || n > maxTen {
		return 0
	}
	p := uint64(1)
	for range n {
		p *= 10
	}
	return p
}
