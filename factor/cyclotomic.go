package factor

import (
	"radicand/api"
	"radicand/num"
	"radicand/poly"
)

// Cyclotomic is the n-th of the polynomials of which x^n - 1 is, for each n, the product: of those of all numbers
// that divide n.
func Cyclotomic(n int) (poly.Poly, api.Fault) {
	if n < 1 || n > api.MaxDegree {
		return poly.Poly{}, api.Fault{Code: api.ErrRange}
	}
	p := poly.Of(num.Whole(num.Of(-1)), num.Whole(num.Of(1)))
	// At x^d, for a prime d, what p is of m is what it is of m d and, if d does not divide m, that of m times.
	for d := 2; n > 1; d++ {
		if n%d == 0 {
			p, _, _ = spread(p, d).Div(p)
			n /= d
		}
		for ; n%d == 0; n /= d {
			p = spread(p, d)
		}
	}
	return p, api.Fault{}
}

// spread is p at x^d; p is not 0.
func spread(p poly.Poly, d int) poly.Poly {
	cs := make([]num.Frac, p.Degree()*d+1)
	for i := range p.Degree() + 1 {
		cs[i*d] = p.At(i)
	}
	return poly.Of(cs...)
}
