// Package ball reckons with real numbers that are known up to an error: what is told of them is certain.
package ball

import (
	"radicand/num"
	"radicand/whole"
)

// A Ball is a part of the line, in which a number is: the middle, and how far from it the number may be at most. Both
// are in parts of a Rule, which those who reckon with balls know.
type Ball struct{ mid, rad num.Int }

// A Rule has 2 to the Bits parts of 1.
type Rule struct {
	bits int
	unit num.Int
}

// Of is the rule with so many bits, which are not below 0.
func Of(bits int) Rule { return Rule{bits, whole.TwoTo(bits)} }

// Bits is how many r has.
func (r Rule) Bits() int { return r.bits }

// Whole is a.
func (r Rule) Whole(a num.Int) Ball { return Ball{mid: a.Mul(r.unit)} }

// Sign is the sign of all numbers in a; 0, if 0 is in it.
func (a Ball) Sign() int {
	if whole.Size(a.mid).Cmp(a.rad) <= 0 {
		return 0
	}
	return a.mid.Sign()
}

// most is a number that none in a is above, without its sign.
func (a Ball) most() num.Int { return whole.Size(a.mid).Add(a.rad) }

// least is a number that none in a is below, without its sign; it may be below 0.
func (a Ball) least() num.Int { return whole.Size(a.mid).Sub(a.rad) }

// Below tells whether all numbers in a are, without their sign, below 1 over 2^n.
func (r Rule) Below(a Ball, n int) bool {
	return r.bits >= n && a.most().Cmp(whole.TwoTo(r.bits-n)) < 0
}

// Blunter tells whether, next to how far it is from 0, a is less well known than b.
func (a Ball) Blunter(b Ball) bool {
	return a.rad.Mul(whole.Size(b.mid)).Cmp(b.rad.Mul(whole.Size(a.mid))) > 0
}

// Lost is how many bits the parts have that a's numbers may be off, 0 being among them.
func (a Ball) Lost() int { return whole.BitLen(a.most()) }

// Scale is an n for which all numbers in a are, without their signs, below 2^n; it may be below 0.
func (r Rule) Scale(a Ball) int { return a.Lost() - r.bits }

// Add is a + b.
func (a Ball) Add(b Ball) Ball { return Ball{a.mid.Add(b.mid), a.rad.Add(b.rad)} }

// Sub is a - b.
func (a Ball) Sub(b Ball) Ball { return Ball{a.mid.Sub(b.mid), a.rad.Add(b.rad)} }

// Times is n times a.
func (a Ball) Times(n num.Int) Ball { return Ball{a.mid.Mul(n), a.rad.Mul(whole.Size(n))} }

// Mul is a times b.
func (r Rule) Mul(a, b Ball) Ball {
	off := a.rad.Mul(b.rad)
	if a.rad.Sign() != 0 {
		off = off.Add(a.rad.Mul(whole.Size(b.mid)))
	}
	if b.rad.Sign() != 0 {
		off = off.Add(b.rad.Mul(whole.Size(a.mid)))
	}
	// Two more: both quotients are rounded.
	return Ball{whole.Floor(a.mid.Mul(b.mid), r.unit), whole.Floor(off, r.unit).Add(num.Of(2))}
}

// Quo is a divided by b, and true; nothing, if 0 may be in b.
func (r Rule) Quo(a, b Ball) (Ball, bool) {
	if b.Sign() == 0 {
		return Ball{}, false
	}
	q := whole.Floor(a.mid.Mul(r.unit), b.mid)
	// What x / y is off by, if x is off by e and y by f, is at most (e + |x / y| f) / (|y| - f). The quotient is rounded:
	// so it is one more, and one more again for what it is off by.
	off := a.rad.Mul(r.unit).Add(next(whole.Size(q)).Mul(b.rad))
	return Ball{q, whole.Floor(off, b.least()).Add(num.Of(2))}, true
}

// next is a + 1.
func next(a num.Int) num.Int { return a.Add(num.Of(1)) }

// From is a ball of another rule.
func (r Rule) From(old Rule, a Ball) Ball {
	if old.bits <= r.bits {
		return a.Times(whole.TwoTo(r.bits - old.bits))
	}
	parts := whole.TwoTo(old.bits - r.bits)
	return Ball{whole.Floor(a.mid, parts), whole.Floor(a.rad, parts).Add(num.Of(2))}
}
