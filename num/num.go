// Package num has integers and fractions of any length: see doc/01-num.md.
package num

import (
	"cmp"
	"math"
	"math/bits"

	"radicand/api"
)

// Int is an integer of any length. The zero value is 0.
type Int struct {
	small int      // the number, if it is an int; else its sign
	wide  []uint64 // if it is no int: its magnitude, which is never written to again
}

// Of is n.
func Of(n int) Int { return Int{small: n} }

// signed is the number with this magnitude, below 0 or not.
func signed(below bool, w []uint64) Int {
	if len(w) == 0 {
		return Int{}
	}
	if len(w) == 1 {
		if n := int(w[0]); below && w[0] <= 1<<63 {
			return Int{small: -n}
		} else if w[0] <= math.MaxInt {
			return Int{small: n}
		}
	}
	if below {
		return Int{small: -1, wide: w}
	}
	return Int{small: 1, wide: w}
}

// sizeOf is n without its sign.
func sizeOf(n int) uint64 {
	if n < 0 {
		return -uint64(n)
	}
	return uint64(n)
}

// magnitude is a without its sign.
func (a Int) magnitude() []uint64 {
	if a.wide != nil {
		return a.wide
	}
	if a.small == 0 {
		return nil
	}
	return []uint64{sizeOf(a.small)}
}

// Sign is -1, 0 or 1.
func (a Int) Sign() int { return cmp.Compare(a.small, 0) }

// Small is a as an int, and true; 0 and false, if it is none.
func (a Int) Small() (int, bool) {
	if a.wide != nil {
		return 0, false
	}
	return a.small, true
}

// Cmp is -1, 0 or 1, as a is below b, is b, or above it.
func (a Int) Cmp(b Int) int {
	if a.wide == nil && b.wide == nil {
		return cmp.Compare(a.small, b.small)
	}
	if a.Sign() != b.Sign() {
		return cmp.Compare(a.Sign(), b.Sign())
	}
	return a.Sign() * cmpWords(a.magnitude(), b.magnitude())
}

// Neg is -a.
func (a Int) Neg() Int {
	if a.wide == nil && a.small != math.MinInt {
		return Int{small: -a.small}
	}
	return signed(a.small > 0, a.magnitude())
}

// Add is a + b.
func (a Int) Add(b Int) Int {
	if a.wide == nil && b.wide == nil {
		// A sum that runs over has the other sign than both of its parts.
		if s := a.small + b.small; (a.small^s)&(b.small^s) >= 0 {
			return Int{small: s}
		}
	}
	return sum(a, b, b.small < 0)
}

// Sub is a - b.
func (a Int) Sub(b Int) Int {
	if a.wide == nil && b.wide == nil {
		if d := a.small - b.small; (a.small^b.small)&(a.small^d) >= 0 {
			return Int{small: d}
		}
	}
	return sum(a, b, b.small > 0)
}

// sum is a and the number that has b's magnitude and is below 0 or not.
func sum(a, b Int, below bool) Int {
	x, y := a.magnitude(), b.magnitude()
	if a.small < 0 == below {
		return signed(below, addWords(x, y))
	}
	if cmpWords(x, y) < 0 {
		return signed(below, subWords(y, x))
	}
	return signed(a.small < 0, subWords(x, y))
}

// Mul is a times b.
func (a Int) Mul(b Int) Int {
	below := a.small < 0 != (b.small < 0)
	if a.wide != nil && b.wide != nil {
		return signed(below, mulWords(a.wide, b.wide))
	}
	if a.wide != nil {
		return signed(below, mulWord(a.wide, sizeOf(b.small)))
	}
	if b.wide != nil {
		return signed(below, mulWord(b.wide, sizeOf(a.small)))
	}
	hi, lo := bits.Mul64(sizeOf(a.small), sizeOf(b.small))
	if hi == 0 && lo <= math.MaxInt {
		if below {
			return Int{small: -int(lo)}
		}
		return Int{small: int(lo)}
	}
	w := []uint64{lo, hi}
	return signed(below, front(w, 2))
}

// Pow is a to the n.
func (a Int) Pow(n int) (Int, api.Fault) {
	if n < 0 || n > api.MaxPower {
		return Int{}, api.Fault{Code: api.ErrRange}
	}
	return power(a, n), api.Fault{}
}

func power(a Int, n int) Int {
	p := Of(1)
	for i := bits.Len(uint(n)) - 1; i >= 0; i-- {
		p = p.Mul(p)
		if n>>i&1 == 1 {
			p = p.Mul(a)
		}
	}
	return p
}

// Div is q and r with a = q b + r, where r is at least 0 and below b without its sign.
func (a Int) Div(b Int) (Int, Int, api.Fault) {
	if b.small == 0 {
		return Int{}, Int{}, api.Fault{Code: api.ErrZero}
	}
	q, r := cut(a, b)
	return q, r, api.Fault{}
}

// cut is what Div answers for a b that is not 0.
func cut(a, b Int) (q, r Int) {
	if a.wide == nil && b.wide == nil && (a.small != math.MinInt || b.small != -1) {
		q, r = Int{small: a.small / b.small}, Int{small: a.small % b.small}
	} else {
		x, y := divWords(a.magnitude(), b.magnitude())
		q, r = signed(a.small < 0 != (b.small < 0), x), signed(a.small < 0, y)
	}
	if r.small >= 0 {
		return q, r
	}
	// Rounded towards 0 so far.
	if b.small < 0 {
		return q.Add(Of(1)), r.Sub(b)
	}
	return q.Sub(Of(1)), r.Add(b)
}
