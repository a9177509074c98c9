package factor

import (
	"radicand/fp"
	"radicand/num"
)

// A strand is a monic polynomial that divides another one modulo a power of a prime, on its way to higher powers.
type strand struct {
	g []num.Int
	// over is what times the quotient is 1 modulo g: modulo the prime, or the power ahead of that which is reached.
	over []num.Int
}

// strands is s's parts, still modulo the prime.
func (s split) strands() []strand {
	ts := make([]strand, len(s.parts))
	for i, part := range s.parts {
		q, _, _ := fp.Div(s.f, part, s.p)
		ts[i] = strand{whole(part), whole(inverse(q, part, s.p))}
	}
	return ts
}

// lifted is monic polynomials that divide f, which s is of, modulo the last of the powers; each of them is one of s's
// parts modulo the prime, the first of the powers.
func (s split) lifted(f []num.Int, powers []num.Int) [][]num.Int {
	ts := s.strands()
	for i, to := range powers[1:] {
		there := ring{to}.all(f)
		for j := range ts {
			ts[j].rise(there, powers[i], to)
		}
	}
	gs := make([][]num.Int, len(ts))
	for i, t := range ts {
		gs[i] = t.g
	}
	return gs
}

// rise goes from a power to a higher one that divides its square (Newton's way: what g lacks is what is left of f,
// times over).
func (t *strand) rise(f []num.Int, from, to num.Int) {
	low, high := ring{from}, ring{to}
	q, rest := high.divide(f, t.g)
	// Where over q is 1 and a bit, and the square of the bit is 0, over (2 - over q) q is 1.
	two := low.productLeft(t.over, low.all(q), t.g)
	for i, a := range two {
		two[i] = a.Neg()
	}
	two[0] = two[0].Add(num.Of(2))
	t.over = low.productLeft(t.over, two, t.g)
	for i, a := range rest {
		rest[i], _, _ = a.Div(from)
	}
	lack := low.productLeft(t.over, rest, t.g)
	for i, a := range lack {
		t.g[i] = high.least(t.g[i].Add(a.Mul(from)))
	}
}

// ladder is p and powers of it up to p to the n, each of which divides the square of the one ahead.
func ladder(p num.Int, n int) []num.Int {
	if n == 1 {
		return []num.Int{p}
	}
	l := ladder(p, (n+1)/2)
	last := l[len(l)-1]
	next := last.Mul(last)
	if n%2 == 1 {
		next, _, _ = next.Div(p)
	}
	return append(l, next)
}

// exponent is the least n, from 1 on, so that p to the n is above the bound.
func exponent(p, bound num.Int) int {
	n := 1
	for power := p; power.Cmp(bound) <= 0; n++ {
		power = power.Mul(p)
	}
	return n
}

// whole is the same numbers.
func whole(ns []int) []num.Int {
	l := make([]num.Int, len(ns))
	for i, n := range ns {
		l[i] = num.Of(n)
	}
	return l
}
