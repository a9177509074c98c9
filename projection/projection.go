// Package projection has sets of polynomials of several variables, and what is left of them without one variable: the
// polynomials by whose signs it can be told where roots meet, or go away.
package projection

import (
	"slices"

	"radicand/minors"
	"radicand/num"
	"radicand/terms"
)

// Set is the set of some polynomials, in its order: without numbers, each primitive and once.
func Set(ps []terms.Poly) []terms.Poly {
	var set []terms.Poly
	for _, p := range ps {
		if !p.IsNumber() {
			_, q := p.Primitive()
			set = append(set, q)
		}
	}
	slices.SortFunc(set, terms.Cmp)
	return slices.CompactFunc(set, func(p, q terms.Poly) bool { return terms.Cmp(p, q) == 0 })
}

// Of is the projection of a set by variable v, a set again.
func Of(set []terms.Poly, v int) []terms.Poly {
	var told []terms.Poly
	var cut [][]line
	for _, p := range set {
		cs := line(p.By(v))
		if len(cs) == 1 {
			told = append(told, p)
			continue
		}
		if !cs.lead().IsNumber() {
			told = append(told, cs[0])
		}
		cut = append(cut, cs.reducta())
	}
	for i, rs := range cut {
		for _, r := range rs {
			told = append(told, r.lead())
			told = append(told, meet(r, r.derive(), len(r)-1)...)
		}
		for _, us := range cut[i+1:] {
			told = append(told, meetAll(rs, us)...)
		}
	}
	return Set(told)
}

// A line is a polynomial in one variable: its coefficients by it, that of its power 0 first, the last not 0.
type line []terms.Poly

func (l line) lead() terms.Poly { return l[len(l)-1] }

// reducta is l and what is left of it without its highest term, again and again, as long as that term's coefficient is
// no number, and what is left has degree 1 or more. l has such a degree.
func (l line) reducta() []line {
	var rs []line
	for len(l) > 1 {
		rs = append(rs, l)
		if l.lead().IsNumber() {
			break
		}
		l = l.shorter()
	}
	return rs
}

// shorter is l without its highest term.
func (l line) shorter() line {
	l = l[:len(l)-1]
	for len(l) > 0 && l.lead().Len() == 0 {
		l = l[:len(l)-1]
	}
	return l
}

// derive is the derivative by the variable.
func (l line) derive() line {
	d := make(line, len(l)-1)
	for i := range d {
		d[i] = l[i+1].Scale(num.Whole(num.Of(i + 1)))
	}
	return d
}

// meetAll is what meet tells of each of rs with each of us, of the numbers below the lesser degree.
func meetAll(rs, us []line) []terms.Poly {
	var told []terms.Poly
	for _, r := range rs {
		for _, u := range us {
			told = append(told, meet(r, u, min(len(r), len(u))-1)...)
		}
	}
	return told
}

// meet is the principal subresultant coefficients of r and u with numbers below n that are not 0, in any order.
func meet(r, u line, n int) []terms.Poly {
	var told []terms.Poly
	for _, m := range minors.All(r, u, 0, n-1) {
		told = append(told, m)
	}
	return told
}
