// Package terms has polynomials of several variables, as what reads terms hands them on.
package terms

import "radicand/num"

// Poly is a polynomial. The zero value is 0.
type Poly struct {
	ts []term // in their order by Lex, no power twice, no coefficient 0; never written to again
}

type term struct {
	c num.Frac
	e Power
}

// Single is the polynomial with this term alone; 0, if c is.
func Single(c num.Frac, e Power) Poly {
	if c.Sign() == 0 {
		return Poly{}
	}
	return Poly{[]term{{c, e}}}
}

// Number is the polynomial that is c everywhere.
func Number(c num.Frac) Poly { return Single(c, Power{}) }

// IsNumber tells whether no variable stands in p.
func (p Poly) IsNumber() bool {
	return len(p.ts) == 0 || p.ts[0].e == Power{}
}

// Len is how many terms p has.
func (p Poly) Len() int { return len(p.ts) }

// Each hands on the exponents and the coefficient of each term, in their order by Lex.
func (p Poly) Each(yield func(e Power, c num.Frac) bool) {
	for _, t := range p.ts {
		if !yield(t.e, t.c) {
			return
		}
	}
}

// Total is the sum of n polynomials: of what part tells of the numbers from 0 on.
func Total(n int, part func(i int) Poly) Poly { return total(0, n, part) }

// total is the sum of what part tells of the numbers from lo to below hi. It is added by halves: so each term is moved
// few times, and long fractions meet fractions that are about as long.
func total(lo, hi int, part func(i int) Poly) Poly {
	switch hi - lo {
	case 0:
		return Poly{}
	case 1:
		return part(lo)
	}
	mid := lo + (hi-lo)/2
	return total(lo, mid, part).Add(total(mid, hi, part))
}

// Add is p + q.
func (p Poly) Add(q Poly) Poly {
	a, b := p.ts, q.ts
	ts := make([]term, 0, len(a)+len(b))
	for len(a) > 0 && len(b) > 0 {
		switch {
		case a[0].e == b[0].e:
			if c := a[0].c.Add(b[0].c); c.Sign() != 0 {
				ts = append(ts, term{c, a[0].e})
			}
			a, b = a[1:], b[1:]
		case lex(a[0].e, b[0].e) < 0:
			ts = append(ts, a[0])
			a = a[1:]
		default:
			ts = append(ts, b[0])
			b = b[1:]
		}
	}
	return Poly{append(append(ts, a...), b...)}
}

// Sub is p - q.
func (p Poly) Sub(q Poly) Poly { return p.Add(q.Scale(num.Whole(num.Of(-1)))) }

// Scale is k times p.
func (p Poly) Scale(k num.Frac) Poly {
	if k.Sign() == 0 {
		return Poly{}
	}
	return p.times(term{c: k})
}

// Mul is p times q.
func (p Poly) Mul(q Poly) Poly {
	if len(p.ts) < len(q.ts) {
		p, q = q, p
	}
	return total(0, len(q.ts), func(i int) Poly { return p.times(q.ts[i]) })
}

// times is p times a term that is not 0.
func (p Poly) times(by term) Poly {
	ts := make([]term, len(p.ts))
	for i, t := range p.ts {
		ts[i] = term{t.c.Mul(by.c), t.e.times(by.e)}
	}
	return Poly{ts}
}
