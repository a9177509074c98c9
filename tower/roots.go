package tower

import (
	"radicand/algebraic"
	"radicand/api"
	"radicand/num"
	"radicand/poly"
	"radicand/roots"
	"radicand/terms"
)

// Roots is the real roots, rising, of what p, a polynomial of one variable more than pt has coordinates, is at pt, as a
// polynomial in that variable; and whether it is 0 there.
func (pt Point) Roots(p terms.Poly) (rs []*Root, zero bool) {
	cs := pt.left(p)
	if len(cs) == 0 {
		return nil, true
	}
	if f, is := plain(cs); is {
		return exact(f), false
	}
	if len(cs) == 1 {
		return nil, false
	}
	l := &line{under: pt, cs: cs, size: sizeOfAll(cs), distinct: len(cs) - 1}
	l.settle()
	for i := range len(l.cells) {
		rs = append(rs, &Root{line: l, rank: i})
	}
	return rs, false
}

// left is the coefficients of what is left of p at pt by its last variable, with integers as theirs, the last of them
// not 0 there; none, if it is 0.
func (pt Point) left(p terms.Poly) []terms.Poly {
	v := len(pt)
	_, p = pt.fixed(p).Primitive()
	cs := p.By(v)
	for n := len(cs); n > 0; n-- {
		if last := cs[n-1]; last.Len() > 0 && pt.Sign(last) != 0 {
			return primitive(cs[:n])
		}
	}
	return nil
}

// primitive is the coefficients, integers in all, without what divides all of these.
func primitive(cs []terms.Poly) []terms.Poly {
	var k num.Int
	for _, c := range cs {
		share, _ := c.Primitive()
		a, _ := share.Parts()
		k = num.Gcd(k, a)
	}
	by, _ := num.Over(num.Of(1), k)
	l := make([]terms.Poly, len(cs))
	for i, c := range cs {
		l[i] = c.Scale(by)
	}
	return l
}

// plain is the polynomial with these coefficients, and true, if no variable stands in them.
func plain(cs []terms.Poly) (poly.Poly, bool) {
	xs := make([]num.Frac, len(cs))
	for i, c := range cs {
		if !c.IsNumber() {
			return poly.Poly{}, false
		}
		xs[i] = c.Value(nil)
	}
	return poly.Of(xs...), true
}

// exact is the real roots of a polynomial that is not 0, rising.
func exact(f poly.Poly) []*Root {
	if f.Degree() > api.MaxFactor {
		return exactLong(f)
	}
	var rs []*Root
	// It is not refused: f is neither 0 nor too long.
	zs, _ := algebraic.Zeros(f)
	for _, z := range zs {
		if z.F.Degree() == 1 {
			x, _ := z.F.At(0).Neg().Quo(z.F.Lead())
			rs = append(rs, &Root{at: x})
			continue
		}
		rs = append(rs, &Root{line: exactLine(z.F, z.All), rank: z.Rank})
	}
	return rs
}

// exactLong is exact of a polynomial that is too long to be split.
func exactLong(f poly.Poly) []*Root {
	f, _, _ = f.Div(poly.Gcd(f, f.Derive()))
	_, f = f.Primitive()
	l := exactLine(f, roots.All(f))
	rs := make([]*Root, len(l.exact))
	for i := range rs {
		rs[i] = &Root{line: l, rank: i}
	}
	return rs
}

// exactLine is the line of a primitive polynomial without squares, and of its real roots.
func exactLine(f poly.Poly, all []*roots.Root) *line {
	cs := make([]terms.Poly, f.Degree()+1)
	for i := range cs {
		cs[i] = terms.Number(f.At(i))
	}
	return &line{cs: cs, size: sizeOfAll(cs), distinct: f.Degree(), known: true, exact: all}
}
