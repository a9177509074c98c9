// Package tower has points of which each coordinate is a root of a polynomial whose coefficients hang on those ahead of
// it, and what is true there.
//
// A coordinate is closed in on as far as is asked for, and so is what polynomials come to. That this is 0 is told by how
// close to 0 it is: closer than numbers that come of these polynomials can be if they are not 0.
package tower

import (
	"radicand/ball"
	"radicand/num"
	"radicand/terms"
	"radicand/whole"
)

// A Point has one root for each of its coordinates, variable 0 first. It is never written to.
type Point []*Root

// With is the point with one coordinate more.
func (pt Point) With(x *Root) Point {
	all := make(Point, len(pt), len(pt)+1)
	copy(all, pt)
	return append(all, x)
}

// fixed is what p is where those of the coordinates that are fractions stand in the place of their variables.
func (pt Point) fixed(p terms.Poly) terms.Poly {
	for v, x := range pt {
		if x.line == nil && p.Degree(v) > 0 {
			p = p.Fix(v, x.at)
		}
	}
	return p
}

// Sign is -1, 0 or 1, as p, a polynomial of as many variables as pt has coordinates, is below 0, is 0, or above 0 there.
func (pt Point) Sign(p terms.Poly) int {
	k, p := pt.fixed(p).Primitive()
	if p.IsNumber() {
		return k.Sign()
	}
	near := func(r ball.Rule) ball.Ball { return pt.look(r).value(p) }
	gap := pt.gap(sizeOf(p))
	if gap > plainFrom && near(ball.Of(firstLook)).Sign() == 0 && pt.plainly(p, gap) {
		return 0
	}
	return k.Sign() * sign(gap, near)
}

// plainFrom is the gap from which on it takes longer to see that a number is 0 than to look whether that is plain.
const plainFrom = 1500

// Floor is the greatest integer that is not above 10^n times the coordinate v.
func (pt Point) Floor(v, n int) num.Int {
	times, _ := num.Of(10).Pow(n)
	x := pt[v]
	if x.line == nil {
		return x.at.Mul(num.Whole(times)).Floor()
	}
	s := x.span(whole.BitLen(times) + 1)
	unit := whole.TwoTo(s.Bits)
	below, a := whole.Floor(s.Low.Mul(times), unit), whole.Floor(s.High.Mul(times), unit)
	// There is one integer at most between the ends: the coordinate is below it, or not.
	if a.Cmp(below) == 0 || pt[:v+1].Sign(less(v, times, a)) >= 0 {
		return a
	}
	return below
}

// less is the polynomial that is k times variable v less a.
func less(v int, k, a num.Int) terms.Poly {
	var e terms.Power
	e[v] = 1
	return terms.Single(num.Whole(k), e).Sub(terms.Number(num.Whole(a)))
}
