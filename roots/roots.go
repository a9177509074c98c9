// Package roots tells the real roots of polynomials apart, and closes in on them.
package roots

import (
	"slices"

	"radicand/num"
	"radicand/poly"
)

// A Root is a real root of a polynomial that no square divides, and a span of the line in which that has no other
// one: it is not below at over 2^k, and below at + 1 over 2^k. It is closed in on by calls that ask for more of it.
type Root struct {
	f    []num.Int // the coefficients, the lowest first
	at   num.Int
	k    int  // may be below 0
	here bool // it is at over 2^k; if not, it is above that
	from int  // if it is not here, the sign of f between the beginning of the span and it

	// What closing in goes by, if it has begun: what f comes to at both ends, as value tells it, and the bits by which
	// the span is to get shorter next.
	begun     bool
	low, high num.Int
	leap      int
}

// All is all real roots of a polynomial that is not 0 and that no square divides, rising.
func All(f poly.Poly) []*Root {
	return find(f, func(num.Int, int) bool { return true })
}

// Between is those of them that are above lo and not above hi.
func Between(f poly.Poly, lo, hi num.Frac) []*Root {
	rs := find(f, func(at num.Int, k int) bool {
		return compare(at, k, hi) <= 0 && compare(next(at), k, lo) > 0
	})
	return slices.DeleteFunc(rs, func(r *Root) bool { return r.Against(lo) <= 0 || r.Against(hi) > 0 })
}

// Against is -1, 0 or 1, as the root is below x, is x, or above it.
func (r *Root) Against(x num.Frac) int {
	c := compare(r.at, r.k, x)
	if r.here {
		return c
	}
	if c >= 0 {
		return 1
	}
	if compare(next(r.at), r.k, x) <= 0 {
		return -1
	}
	// Behind the root f has the other sign.
	a, b := x.Parts()
	return r.from * value(r.f, a, b).Sign()
}

// Below tells whether the root is below 0.
func (r *Root) Below() bool { return r.at.Sign() < 0 }
