// Package minors has the determinants of two polynomials: their principal subresultant coefficients, as chapter 8 names
// them, which are polynomials of the other variables.
package minors

import (
	"radicand/num"
	"radicand/terms"
)

// Psc is the number j of a and b as polynomials in v. None of them is 0, or has a lower degree than j.
func Psc(a, b terms.Poly, v, j int) terms.Poly {
	k, a := a.Primitive()
	m, b := b.Primitive()
	found := All(a.By(v), b.By(v), j, j)[j]
	return found.Scale(power(k, b.Degree(v)-j).Mul(power(m, a.Degree(v)-j)))
}

func power(x num.Frac, n int) num.Frac {
	p := num.Whole(num.Of(1))
	for range n {
		p = p.Mul(x)
	}
	return p
}

// A pair is two polynomials in one variable: the coefficients of each, polynomials of the others with integers as
// theirs, the lowest first, the last not 0. Asked for are their numbers least to most, no one above a degree.
type pair struct {
	a, b        []terms.Poly
	least, most int
}

// degrees is p and q, those of a and b.
func (x pair) degrees() (p, q int) { return len(x.a) - 1, len(x.b) - 1 }

// All is, by their numbers, those of a and b from least to most that are not 0.
//
// They are sought by sets of columns, which is short where there are few terms; if that takes longer than to find them
// by their values at the points of a grid, they are found so.
func All(a, b []terms.Poly, least, most int) map[int]terms.Poly {
	x := pair{a, b, least, most}
	g := gridOf(x)
	if found, done := x.byColumns(g.steps()); done {
		return found
	}
	return g.all()
}
