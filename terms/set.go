package terms

import (
	"cmp"

	"radicand/num"
)

// By is the coefficients of p by variable v, polynomials of the others: that of v to the 0 first, the last not 0.
// (0 has none.)
func (p Poly) By(v int) []Poly {
	if len(p.ts) == 0 {
		return nil
	}
	cs := make([]Poly, p.Degree(v)+1)
	for _, t := range p.ts {
		c := &cs[t.e[v]]
		c.ts = append(c.ts, term{t.c, t.e.with(v, 0)})
	}
	return cs
}

// Primitive is k and q with p = k q, where q's coefficients are integers without a common divisor but 1, that of its
// first term above 0. (0 and 0, if p is 0.)
func (p Poly) Primitive() (num.Frac, Poly) {
	if len(p.ts) == 0 {
		return num.Frac{}, Poly{}
	}
	above, below := p.share()
	q := Poly{make([]term, len(p.ts))}
	for i, t := range p.ts {
		a, b := t.c.Parts()
		a, _, _ = a.Div(above)
		b, _, _ = below.Div(b)
		q.ts[i] = term{num.Whole(a.Mul(b)), t.e}
	}
	k, _ := num.Over(above, below)
	return k, q
}

// share is the greatest common divisor of what stands above the bars, with the sign of p's first term, and the least
// number that all that stands below them divides: as each coefficient is in lowest terms, p over the one and times
// the other is integers without a common divisor but 1. p is not 0.
func (p Poly) share() (above, below num.Int) {
	below = num.Of(1)
	for _, t := range p.ts {
		a, b := t.c.Parts()
		above = num.Gcd(above, a)
		rest, _, _ := b.Div(num.Gcd(b, below))
		below = below.Mul(rest)
	}
	if p.ts[0].c.Sign() < 0 {
		above = above.Neg()
	}
	return above, below
}

// Cmp is below 0, 0 or above 0, as p stands ahead of q in a set, is q, or stands behind it: term by term, what has the
// term that is ahead by Lex is ahead; of the same exponents, what has the greater coefficient; what has no more terms.
func Cmp(p, q Poly) int {
	for i, t := range p.ts {
		if i == len(q.ts) {
			break
		}
		u := q.ts[i]
		if order := cmp.Or(lex(t.e, u.e), u.c.Cmp(t.c)); order != 0 {
			return order
		}
	}
	return cmp.Compare(len(p.ts), len(q.ts))
}
