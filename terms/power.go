package terms

import (
	"cmp"
	"slices"

	"radicand/api"
)

// A Power is the exponents of the variables; of those that a polynomial has not, they are 0.
type Power [api.MaxVars]int

// times is the exponents of a product.
func (a Power) times(b Power) Power {
	for v, e := range b {
		a[v] += e
	}
	return a
}

// with is a where the exponent of variable v is e.
func (a Power) with(v, e int) Power {
	a[v] = e
	return a
}

func (a Power) sum() int {
	s := 0
	for _, e := range a {
		s += e
	}
	return s
}

// lex is below 0, 0 or above 0, as a stands ahead of b by Lex, is b, or stands behind it.
func lex(a, b Power) int { return slices.Compare(b[:], a[:]) }

func bySums(a, b Power) int { return cmp.Compare(b.sum(), a.sum()) }

// byLast goes by the last variable of which there is not as much: what has less of it is ahead.
func byLast(a, b Power) int {
	for v := api.MaxVars - 1; v >= 0; v-- {
		if a[v] != b[v] {
			return cmp.Compare(a[v], b[v])
		}
	}
	return 0
}

// inOrder tells of two powers which one stands ahead, as lex does, by one of the orders.
func inOrder(order int) func(a, b Power) int {
	switch order {
	case api.Grlex:
		return func(a, b Power) int { return cmp.Or(bySums(a, b), lex(a, b)) }
	case api.Grevlex:
		return func(a, b Power) int { return cmp.Or(bySums(a, b), byLast(a, b)) }
	}
	return lex
}
