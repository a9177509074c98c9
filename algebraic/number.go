// Package algebraic reads real algebraic numbers, finds those at which a polynomial is 0, and tells their order.
package algebraic

import (
	"cmp"

	"radicand/api"
	"radicand/poly"
	"radicand/roots"
)

// A Number is a real root of a primitive irreducible polynomial.
type Number struct {
	F    poly.Poly
	All  []*roots.Root // the real roots of F, rising
	Rank int           // which of them it is
}

// Root is that one of the roots.
func (x Number) Root() *roots.Root { return x.All[x.Rank] }

// Told is x as it is written.
func (x Number) Told() api.Alg { return api.Alg{F: x.F.Texts(), K: x.Rank} }

// Cmp is -1, 0 or 1, as x is below y, is y, or above it.
func (x Number) Cmp(y Number) int {
	if x.F.Same(y.F) {
		return cmp.Compare(x.Rank, y.Rank)
	}
	return roots.Cmp(x.Root(), y.Root())
}
