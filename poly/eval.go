package poly

import (
	"math/bits"

	"radicand/api"
	"radicand/num"
)

// A ring has sums and products.
type ring[T any] interface {
	Add(T) T
	Mul(T) T
}

// power is x to the n, which is above 0.
func power[T ring[T]](x T, n int) T {
	p := x
	for i := bits.Len(uint(n)) - 2; i >= 0; i-- {
		p = p.Mul(p)
		if n>>i&1 == 1 {
			p = p.Mul(x)
		}
	}
	return p
}

// raise is x to the n, which is not below 0; to the 0 it is one.
func raise[T ring[T]](x T, n int, one T) T {
	if n == 0 {
		return one
	}
	return power(x, n)
}

// form is the sum of cs[i] times x to the i times y to the n - i, where n is the greatest i; there are some cs.
func form[T ring[T]](cs []T, x, y T) T {
	n := len(cs) - 1
	sum, z := cs[n], y
	for i := n - 1; i >= 0; i-- {
		sum = sum.Mul(x).Add(cs[i].Mul(z))
		if i > 0 {
			z = z.Mul(y)
		}
	}
	return sum
}

// Eval is p at x.
func (p Poly) Eval(x num.Frac) num.Frac {
	k, cs := split(p)
	if len(cs) < 2 {
		return k
	}
	a, b := x.Parts()
	return ratio(form(cs, a, b), power(b, len(cs)-1)).Mul(k)
}

// Compose is p at q.
func (p Poly) Compose(q Poly) (Poly, api.Fault) {
	m, n := max(p.Degree(), 0), max(q.Degree(), 0)
	if m*n > api.MaxDegree {
		return Poly{}, api.Fault{Code: api.ErrMany}
	}
	if m == 0 {
		return p, api.Fault{}
	}
	if n == 0 {
		return made(p.Eval(q.At(0))), api.Fault{}
	}
	k, cs := split(p)
	j, x := split(q)
	a, b := j.Parts()
	numbers := make([]ints, len(cs))
	for i, c := range cs {
		numbers[i] = ints{c}
	}
	sum := form(numbers, x.Mul(ints{a}), ints{b})
	return scaled(k.Mul(ratio(num.Of(1), power(b, m))), sum...), api.Fault{}
}
