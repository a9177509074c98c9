package poly

import (
	"radicand/api"
	"radicand/num"
)

// Div is q and r with p = q d + r, r being 0 or of a lower degree than d.
func (p Poly) Div(d Poly) (Poly, Poly, api.Fault) {
	if len(d.cs) == 0 {
		return Poly{}, Poly{}, api.Fault{Code: api.ErrZero}
	}
	if len(p.cs) < len(d.cs) {
		return Poly{}, p, api.Fault{}
	}
	j, a := split(p)
	k, b := split(d)
	q, r := a.divide(b)
	k, _ = j.Quo(k)
	return made(q...).Scale(k), made(r...).Scale(j), api.Fault{}
}

// divide is the coefficients of the quotient of a and b, and of what is left of a; the last of b's is not 0, and a
// has not less of them.
func (a ints) divide(b ints) (q, r []num.Frac) {
	n := len(b) - 1
	q, r = make([]num.Frac, len(a)-n), make([]num.Frac, n)
	left := make(ints, len(a))
	copy(left, a)
	// What is left is taken so many times as is needed to stay with integers: but what stands below i not before
	// it is reached.
	times := num.Of(1)
	for i := len(q) - 1; i >= 0; i-- {
		left[i] = left[i].Mul(times)
		g := num.Gcd(left[i+n], b[n])
		c, more := share(left[i+n], g), share(b[n], g)
		if !isOne(more) {
			times = times.Mul(more)
			left[i : i+n].scale(more)
		}
		q[i] = ratio(c, times)
		left[i:].take(b[:n], c)
	}
	for i := range r {
		r[i] = ratio(left[i], times)
	}
	return q, r
}

// Gcd is the monic polynomial that divides both, and that all that divide both divide; 0 of 0 and 0.
func Gcd(p, q Poly) Poly {
	_, a := split(p)
	_, b := split(q)
	return scaled(one(), gcd(a, b)...).Monic()
}

// Bezout is g, u, v with u p + v q = g, which is Gcd of p and q.
func Bezout(p, q Poly) (Poly, Poly, Poly) {
	j, a := split(p)
	k, b := split(q)
	d := gcd(a, b)
	g := scaled(one(), d...).Monic()
	if len(b) == 0 {
		u, _ := one().Quo(p.Lead())
		return g, made(u), Poly{}
	}
	if len(b) == len(d) {
		v, _ := one().Quo(q.Lead())
		return g, Poly{}, made(v)
	}
	a, _ = a.over(d)
	b, _ = b.over(d)
	r, u, v := bezout(a, b)
	// So far u a + v b = r; p is j times d a, q is k times d b, and d is its last coefficient times g.
	over := num.Whole(r.Mul(d.lead()))
	j, _ = one().Quo(j.Mul(over))
	k, _ = one().Quo(k.Mul(over))
	return g, scaled(j, u...), scaled(k, v...)
}
