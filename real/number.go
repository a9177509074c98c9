package real

import (
	"slices"

	"radicand/algebraic"
	"radicand/api"
	"radicand/num"
	"radicand/poly"
)

// read is a, and the fault of what is not written as an algebraic number.
func read(a api.Alg) (algebraic.Number, api.Fault) { return algebraic.NewReader().Read(a) }

// readTwo is a and b, and the fault of the first that has one.
func readTwo(a, b api.Alg) (x, y algebraic.Number, fault api.Fault) {
	r := algebraic.NewReader()
	if x, fault = r.Read(a); fault.Code != 0 {
		return algebraic.Number{}, algebraic.Number{}, fault
	}
	if y, fault = r.Read(b); fault.Code != 0 {
		return algebraic.Number{}, algebraic.Number{}, fault
	}
	return x, y, api.Fault{}
}

// near is the greatest integer that is not above x times 10^n.
func near(x algebraic.Number, n int) num.Int {
	ten, _ := num.Of(10).Pow(n)
	sixteen, _ := num.Of(16).Pow(n)
	// From the root's Floor to the next number it is 1 over sixteen, so at most 1 over ten: it is this, or one more.
	low, _, _ := x.Root().Floor(4 * n).Mul(ten).Div(sixteen)
	more := low.Add(num.Of(1))
	if at, _ := num.Over(more, ten); x.Root().Against(at) >= 0 {
		return more
	}
	return low
}

// neg is -x: the polynomial at -x has the roots the other way round.
func neg(x algebraic.Number) algebraic.Number {
	cs := coefficients(x.F)
	for i := range cs {
		if i%2 == 1 {
			cs[i] = cs[i].Neg()
		}
	}
	return algebraic.Number{F: withPlus(cs), Rank: len(x.All) - 1 - x.Rank}
}

// inv is 1 over x, which is not 0: among the numbers below 0, and among those above it, the roots go the other way
// round.
func inv(x algebraic.Number) algebraic.Number {
	cs := coefficients(x.F)
	slices.Reverse(cs)
	below := 0
	for _, r := range x.All {
		if r.Below() {
			below++
		}
	}
	rank := below - 1 - x.Rank
	if rank < 0 {
		rank += len(x.All)
	}
	return algebraic.Number{F: withPlus(cs), Rank: rank}
}

func coefficients(f poly.Poly) []num.Frac {
	cs := make([]num.Frac, f.Degree()+1)
	for i := range cs {
		cs[i] = f.At(i)
	}
	return cs
}

// withPlus is the polynomial with these coefficients, or with their opposites, if the last of them is below 0.
func withPlus(cs []num.Frac) poly.Poly {
	f := poly.Of(cs...)
	if f.Lead().Sign() < 0 {
		return f.Scale(num.Whole(num.Of(-1)))
	}
	return f
}
