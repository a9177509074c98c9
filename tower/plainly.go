package tower

import "radicand/terms"

// How many products of two terms may be made at least to see that a polynomial is 0 without its value, and, if the gap is
// more bits, at most; and how many terms a quotient may have.
const (
	fewSteps  = 20000
	manySteps = 10000000
	mostTerms = 400
)

// A rest looks for polynomials that are 0 at a point because the polynomials of its coordinates are: what is left of
// them, divided by these, has no terms. (What is seen so need not be seen by many bits. But not all can be seen so.)
type rest struct {
	pt    Point
	steps int // how many more may be taken
}

// plainly tells whether it is seen so that p is 0 at pt.
func (pt Point) plainly(p terms.Poly, gap int) bool {
	r := rest{pt, min(max(gap, fewSteps), manySteps)}
	return r.none(p, len(pt)-1)
}

// none tells whether p, in which the variables up to v stand, is seen to be 0.
func (r *rest) none(p terms.Poly, v int) bool {
	if p.IsNumber() {
		return p.Len() == 0
	}
	for p.Degree(v) == 0 {
		v--
	}
	for _, c := range r.divide(p.By(v), r.pt[v].line.cs) {
		if r.steps < 0 || !r.none(c, v-1) {
			return false
		}
	}
	return r.steps >= 0
}

// divide is what is left of a polynomial in one variable, times the last coefficient of the other one as often as it has
// to be, divided by that.
func (r *rest) divide(a, by []terms.Poly) []terms.Poly {
	for len(a) >= len(by) && r.steps >= 0 {
		a = r.shorter(a, by)
	}
	return a
}

// shorter is a less as much of by as has its last term; a times the last coefficient of by, if that has to be.
func (r *rest) shorter(a, by []terms.Poly) []terms.Poly {
	top, lead, less := a[len(a)-1], by[len(by)-1], len(a)-len(by)
	k, even := top.Over(lead, mostTerms)
	if !even {
		k = top
	}
	left := make([]terms.Poly, len(a)-1)
	for i := range left {
		left[i] = a[i]
		if !even {
			left[i] = r.times(lead, a[i])
		}
		if i >= less {
			left[i] = left[i].Sub(r.times(k, by[i-less]))
		}
	}
	for len(left) > 0 && left[len(left)-1].Len() == 0 {
		left = left[:len(left)-1]
	}
	return left
}

// times is p q, or 0, if that takes too many steps.
func (r *rest) times(p, q terms.Poly) terms.Poly {
	r.steps -= p.Len() * q.Len()
	if r.steps < 0 {
		return terms.Poly{}
	}
	return p.Mul(q)
}
