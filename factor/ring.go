package factor

import (
	"slices"

	"radicand/num"
)

// A ring is the integers modulo m, which stand in it as those from 0 on below m. A polynomial of it is the list of
// its coefficients, the lowest first; the last ones may be 0.
type ring struct{ m num.Int }

// least is a modulo m.
func (r ring) least(a num.Int) num.Int {
	_, b, _ := a.Div(r.m)
	return b
}

// nearest is, of all numbers that are a modulo m, one that is nearest to 0.
func (r ring) nearest(a num.Int) num.Int {
	a = r.least(a)
	if b := a.Sub(r.m); b.Add(a).Sign() > 0 {
		return b
	}
	return a
}

// all is each of the numbers modulo m.
func (r ring) all(as []num.Int) []num.Int {
	l := make([]num.Int, len(as))
	for i, a := range as {
		l[i] = r.least(a)
	}
	return l
}

// product is f g; both have coefficients.
func (r ring) product(f, g []num.Int) []num.Int {
	sums := make([]num.Int, len(f)+len(g)-1)
	for i, a := range f {
		for j, b := range g {
			sums[i+j] = sums[i+j].Add(a.Mul(b))
		}
	}
	return r.all(sums)
}

// divide is the quotient of f and g, which is monic, and what is left: as many coefficients as g has degrees.
func (r ring) divide(f, g []num.Int) (q, rest []num.Int) {
	n := len(g) - 1
	sums := make([]num.Int, max(len(f), n))
	copy(sums, f)
	for i := len(sums) - 1; i >= n; i-- {
		c := r.least(sums[i])
		for j, a := range g[:n] {
			sums[i-n+j] = sums[i-n+j].Sub(c.Mul(a))
		}
		sums[i] = c
	}
	return slices.Clone(sums[n:]), r.all(sums[:n])
}

// productLeft is what is left of f g divided by m, which is monic.
func (r ring) productLeft(f, g, m []num.Int) []num.Int {
	_, rest := r.divide(r.product(f, g), m)
	return rest
}
