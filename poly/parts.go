package poly

import (
	"radicand/api"
	"radicand/num"
)

// Parts is p's Lead, and monic polynomials without squares or common divisors, each with a number, these rising: p
// is the Lead times all of them to the power of their numbers (Yun's way).
func (p Poly) Parts() (num.Frac, []api.Part, api.Fault) {
	if len(p.cs) == 0 {
		return num.Frac{}, nil, api.Fault{Code: api.ErrZero}
	}
	var parts []api.Part
	g := Gcd(p, p.Derive())
	// rest is the product of all parts that are still to come, each once; of its derivative each of them has as
	// many times its share as it is there more often than n.
	rest := quotient(p, g).Monic()
	more := quotient(p.Monic().Derive(), g).Sub(rest.Derive())
	for n := 1; rest.Degree() > 0; n++ {
		g = Gcd(rest, more)
		if g.Degree() > 0 {
			parts = append(parts, api.Part{F: g.Texts(), N: n})
		}
		rest = quotient(rest, g)
		more = quotient(more, g).Sub(rest.Derive())
	}
	return p.Lead(), parts, api.Fault{}
}

// quotient is p over d, which is not 0 and divides it.
func quotient(p, d Poly) Poly {
	q, _, _ := p.Div(d)
	return q
}
