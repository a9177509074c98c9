package poly

import (
	"slices"

	"radicand/api"
	"radicand/num"
)

// Through is the polynomial of degree below len(xs) that is ys[i] at xs[i], for each i.
func Through(xs, ys []num.Frac) (Poly, api.Fault) {
	if len(xs) != len(ys) {
		return Poly{}, api.Fault{Code: api.ErrSize}
	}
	if i := firstTwice(xs); i < len(xs) {
		return Poly{}, api.Fault{Code: api.ErrTwice, At: i}
	}
	// At xs[i], all that is not 0 of the sum with weights 1 is the product of what xs[i] is above the others.
	_, distances := weigh(xs, slices.Repeat([]num.Frac{one()}, len(xs)))
	weights := make([]num.Frac, len(xs))
	for i, x := range xs {
		weights[i], _ = ys[i].Quo(distances.Eval(x))
	}
	_, p := weigh(xs, weights)
	return p, api.Fault{}
}

// weigh is the product of all x - xs[i]; and the sum, over all i, of weights[i] times that product without x - xs[i].
func weigh(xs, weights []num.Frac) (product, sum Poly) {
	if len(xs) == 0 {
		return made(one()), Poly{}
	}
	if len(xs) == 1 {
		return made(xs[0].Neg(), one()), made(weights[0])
	}
	h := len(xs) / 2
	p, s := weigh(xs[:h], weights[:h])
	q, t := weigh(xs[h:], weights[h:])
	return p.Mul(q), s.Mul(q).Add(t.Mul(p))
}

// firstTwice is the least i at which xs[i] stands ahead, too; len(xs), if there is none.
func firstTwice(xs []num.Frac) int {
	order := make([]int, len(xs))
	for i := range order {
		order[i] = i
	}
	slices.SortStableFunc(order, func(i, j int) int { return xs[i].Cmp(xs[j]) })
	first := len(xs)
	for k := 1; k < len(order); k++ {
		if xs[order[k]].Cmp(xs[order[k-1]]) == 0 {
			first = min(first, order[k])
		}
	}
	return first
}
