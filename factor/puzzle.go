package factor

import (
	"iter"

	"radicand/num"
	"radicand/poly"
)

// A puzzle is a polynomial modulo a power of a prime: of the monic ones that divide it there, some together make each
// of its factors.
type puzzle struct {
	ring
	pieces  [][]num.Int
	left    set       // of the pieces: those that are in no factor so far
	degrees set       // those that factors may have
	lead    num.Int   // the last coefficient of the polynomial
	sums    []num.Int // the lead times the sum of the roots of each piece, with the other sign
	reach   num.Int   // the product of the lead and all roots beyond 1, without signs, is not above it
}

// factors goes through the primitive irreducible polynomials whose product is f, which is primitive and has no
// squares: in no order.
func factors(f poly.Poly) iter.Seq[poly.Poly] {
	return func(yield func(poly.Poly) bool) {
		if f.Degree() < 1 {
			return
		}
		z, rest := puzzleOf(f), f
		for s := range halves(&z.left) {
			if !z.fits(s) {
				continue
			}
			g := z.join(s)
			q, is := over(rest, g)
			if !is {
				continue
			}
			if !yield(g) {
				return
			}
			rest = q
			z.left &^= s
		}
		yield(rest)
	}
}

// puzzleOf is that of f, which is primitive, has no squares, and is of degree 1 or more; without pieces, if f is seen
// to be irreducible.
func puzzleOf(f poly.Poly) puzzle {
	cs := numbers(f)
	s, degrees := best(cs)
	if justEnds(degrees) {
		return puzzle{}
	}
	// What join takes for a coefficient is, but for its sign, the lead times a sum of products of roots, less than
	// half of 2 to the degree of them: so the power is above twice of it.
	reach := length(cs)
	p := num.Of(s.p)
	powers := ladder(p, exponent(p, reach.Mul(num.Of(1<<f.Degree()))))
	z := puzzle{
		ring:    ring{powers[len(powers)-1]},
		pieces:  s.lifted(cs, powers),
		left:    below(len(s.parts)),
		degrees: degrees,
		lead:    cs[len(cs)-1],
		reach:   reach,
	}
	for _, g := range z.pieces {
		z.sums = append(z.sums, z.least(z.lead.Mul(g[len(g)-2])))
	}
	return z
}

// length is above the root of the sum of the squares, by 1 at most. So it is above the product of the last of the
// coefficients and all roots beyond 1, without signs (Landau).
func length(cs []num.Int) num.Int {
	var sum num.Int
	for _, c := range cs {
		sum = sum.Add(c.Mul(c))
	}
	root, _ := sum.Root(2)
	return root.Add(num.Of(1))
}

// fits tells whether the set's pieces may make a factor: by its degree, and by the lead times the sum of its roots,
// which modulo so high a power is seldom near 0 by chance.
func (z puzzle) fits(s set) bool {
	degree, sum := 0, num.Int{}
	for i := range s.each() {
		degree += len(z.pieces[i]) - 1
		sum = sum.Add(z.sums[i])
	}
	most := z.reach.Mul(num.Of(degree))
	sum = z.nearest(sum)
	return z.degrees.has(degree) && sum.Cmp(most) <= 0 && sum.Cmp(most.Neg()) >= 0
}

// join is the primitive factor that the set's pieces make, if they make one. (The lead of each factor divides that of
// the polynomial.)
func (z puzzle) join(s set) poly.Poly {
	cs := []num.Int{z.lead}
	for i := range s.each() {
		cs = z.product(cs, z.pieces[i])
	}
	xs := make([]num.Frac, len(cs))
	for i, c := range cs {
		xs[i] = num.Whole(z.nearest(c))
	}
	_, g := poly.Of(xs...).Primitive()
	return g
}
