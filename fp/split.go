package fp

import (
	"iter"
	"slices"
)

// parts goes through monic polynomials of degree 1 or more, none of which a square of such divides, no two with a
// common divisor, each with a number: f, which is monic, is the product of all of them to the power of their numbers.
func (k field) parts(f []int) iter.Seq2[[]int, int] {
	return func(yield func([]int, int) bool) {
		for unit := 1; len(f) > 1; unit *= k.p {
			// What is in f as often as a multiple of p is in more as often; all else is there once less, and once in
			// once.
			more := k.gcd(f, k.derivative(f))
			once := k.quotient(f, more)
			for n := unit; len(once) > 1; n += unit {
				again := k.gcd(once, more)
				part := k.quotient(once, again)
				if len(part) > 1 && !yield(part, n) {
					return
				}
				once, more = again, k.quotient(more, again)
			}
			f = k.root(more)
		}
	}
}

// root is the polynomial of which f is the p-th power: it has each coefficient of f, as it is, at a p-th of its
// exponent.
func (k field) root(f []int) []int {
	var g []int
	for i := 0; i < len(f); i += k.p {
		g = append(g, f[i])
	}
	return g
}

// factors is the monic irreducible polynomials whose product is f, which is monic, of degree 1 or more, and has no
// squares (Berlekamp's way).
func (k field) factors(f []int) [][]int {
	vs := k.fixed(f)
	pieces := [][]int{f}
	for _, v := range vs {
		// There are as many factors as there are vs: when all are found, the other vs can do nothing more.
		if len(pieces) == len(vs) {
			break
		}
		var next [][]int
		for _, g := range pieces {
			next = append(next, k.split(g, v)...)
		}
		pieces = next
	}
	return pieces
}

// split is the monic polynomials of which the product is f, which is monic and has no squares, so that v is a number
// modulo each of them, another one modulo each; v is to be a number modulo each irreducible one that divides f.
func (k field) split(f, v []int) [][]int {
	v = k.rest(slices.Clone(v), f)
	if len(v) < 2 {
		return [][]int{f}
	}
	for t := range k.trials(v, f) {
		if g := k.gcd(t, f); len(g) > 1 && len(g) < len(f) {
			return append(k.split(g, v), k.split(k.quotient(f, g), v)...)
		}
	}
	return nil // never: see trials
}

// trials goes through polynomials, each of which is 0 modulo some of those that divide f: there v + s is a square
// and not 0 (where p is 2: v + s is 1). For two different values of v there is an s for which just one of them is
// such: for an odd p the product of the two is, for all s together, (p - 1) / 2 times no square.
func (k field) trials(v, f []int) iter.Seq[[]int] {
	return func(yield func([]int) bool) {
		v = slices.Clone(v)
		for range k.p {
			if !yield(k.less(k.power(v, k.p/2, f), []int{1})) {
				return
			}
			v[0] = k.least(v[0] + 1)
		}
	}
}

// roots is the numbers at which f, which is not 0, is 0.
func (k field) roots(f []int) []int {
	x := []int{0, 1}
	// x to the p less x is the product of all x less a number.
	all := k.gcd(f, k.less(k.power(x, k.p, f), x))
	if len(all) < 2 {
		return nil
	}
	var roots []int
	for _, g := range k.split(all, x) {
		roots = append(roots, k.opposite(g[0]))
	}
	return roots
}
