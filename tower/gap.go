package tower

import (
	"radicand/api"
	"radicand/ball"
	"radicand/num"
	"radicand/terms"
	"radicand/whole"
)

// How close to 0 a number may be that is not 0. A number of a field of degree D that has the height h (Weil's) is 0, or,
// without its sign, not below 2^(-D h). The height of what a polynomial with integers as coefficients comes to is at
// most the sum of its variables' heights, each times the degree in it, and of the bits of the sum of its coefficients
// without their signs. That is not below the sum of the heights of all roots in one more variable either (for Mahler's
// measure is not above that sum: Landau); and roots that cannot be told apart have the same height.

// The bits by which it is looked first, and then, if that was not enough.
const (
	firstLook  = 64
	secondLook = 256
)

// sign is the sign of a number that is handed over as a ball of the rule that is asked for: it is 0, or, without its
// sign, not below 1 over 2^gap.
func sign(gap int, near func(r ball.Rule) ball.Ball) int {
	for n := firstLook; ; {
		r := ball.Of(n)
		b := near(r)
		if s := b.Sign(); s != 0 {
			return s
		}
		if r.Below(b, gap) {
			return 0
		}
		n = more(r, b, gap)
	}
}

// more is by how many bits it is looked next, if by r's it was not seen whether b is 0: four times as many, or as many
// as may be enough for the gap, if these are less.
func more(r ball.Rule, b ball.Ball, gap int) int {
	n := r.Bits()
	return min(4*n, max(gap+b.Lost()+2, n+firstLook))
}

// A size is what heights are told by: the degrees of a polynomial in the variables, and the bits of the sum of its
// coefficients, which are integers, without their signs.
type size struct {
	degrees terms.Power
	bits    int
}

// sizeOf is that of p.
func sizeOf(p terms.Poly) size { return sizeOfAll([]terms.Poly{p}) }

// sizeOfAll is that of a polynomial in one variable more, of which these are the coefficients: that one does not count.
func sizeOfAll(cs []terms.Poly) size {
	var s size
	var sum num.Int
	for _, p := range cs {
		for e, c := range p.Each {
			a, _ := c.Parts()
			sum = sum.Add(whole.Size(a))
			for v, n := range e {
				s.degrees[v] = max(s.degrees[v], n)
			}
		}
	}
	s.bits = whole.BitLen(sum.Sub(num.Of(1)))
	return s
}

// A field is one that some coordinates make: its degree, or a number above it, and, likewise, the heights of these
// coordinates times the degree.
type field struct {
	degree  int
	heights [api.MaxVars]int
}

// field is the one of the coordinates on which polynomials of these degrees hang.
func (pt Point) field(degrees terms.Power) field {
	need := pt.needed(degrees)
	f := field{degree: 1}
	for v, x := range pt {
		if need[v] {
			f.degree *= x.line.distinct
		}
	}
	for v, x := range pt {
		if need[v] {
			n := x.line.distinct
			f.heights[v] = (f.height(x.line.size) + n - 1) / n
		}
	}
	return f
}

// needed tells, coordinate by coordinate, whether polynomials of these degrees hang on it, themselves or by other ones.
func (pt Point) needed(degrees terms.Power) [api.MaxVars]bool {
	var need [api.MaxVars]bool
	for v := len(pt) - 1; v >= 0; v-- {
		need[v] = need[v] || degrees[v] > 0
		if !need[v] {
			continue
		}
		for w := range v {
			need[w] = need[w] || pt[v].line.size.degrees[w] > 0
		}
	}
	return need
}

// height is f's degree times the height of what a polynomial comes to, or a number above that.
func (f field) height(s size) int {
	h := f.degree * s.bits
	for v, e := range s.degrees {
		h += e * f.heights[v]
	}
	return h
}

// gap is an n for which a polynomial of that size comes to 0 at pt, or, without its sign, to no less than 1 over 2^n.
func (pt Point) gap(s size) int { return pt.field(s.degrees).height(s) }
