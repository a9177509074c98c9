package poly

import (
	"radicand/api"
	"radicand/num"
)

// Resultant is the determinant of the rows that p's and q's coefficients make; 0, if one of them is 0.
func Resultant(p, q Poly) num.Frac {
	if len(p.cs) == 0 || len(q.cs) == 0 {
		return num.Frac{}
	}
	j, a := split(p)
	k, b := split(q)
	return num.Whole(resultant(a, b)).Mul(raise(j, len(b)-1, one())).Mul(raise(k, len(a)-1, one()))
}

// Disc is Resultant of p and its derivative, over p's Lead, with the sign that makes it the product of the squares
// of what the roots differ by, but for p's Lead.
func (p Poly) Disc() (num.Frac, api.Fault) {
	n := p.Degree()
	if n < 1 {
		return num.Frac{}, api.Fault{Code: api.ErrNone}
	}
	d, _ := Resultant(p, p.Derive()).Quo(p.Lead())
	if n*(n-1)/2%2 == 1 {
		d = d.Neg()
	}
	return d, api.Fault{}
}
