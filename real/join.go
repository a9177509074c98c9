package real

import (
	"slices"

	"radicand/algebraic"
	"radicand/api"
	"radicand/num"
	"radicand/poly"
	"radicand/roots"
)

// Add is a + b.
func Add(a, b api.Alg) (api.Alg, api.Fault) { return join(a, b, sums, sumSpan) }

// Mul is a b.
func Mul(a, b api.Alg) (api.Alg, api.Fault) { return join(a, b, products, productSpan) }

// A span tells between which integers, or at which of them, the Floor of what two roots make is.
type span func(x, y *roots.Root, k int) (low, high num.Int)

// join is what a and b make: all tells the polynomial that is 0 at what the roots of their polynomials make, each
// with each.
func join(a, b api.Alg, all func(f, g poly.Poly) poly.Poly, s span) (api.Alg, api.Fault) {
	x, y, fault := readTwo(a, b)
	if fault.Code != 0 {
		return api.Alg{}, fault
	}
	if x.F.Degree()*y.F.Degree() > api.MaxFactor {
		return api.Alg{}, api.Fault{Code: api.ErrMany}
	}
	zs, _ := algebraic.Zeros(all(x.F, y.F))
	roots.CloseIn(func(k int) bool {
		low, high := s(x.Root(), y.Root(), k)
		zs = slices.DeleteFunc(zs, func(z algebraic.Zero) bool {
			at := z.Root().Floor(k)
			return at.Cmp(low) < 0 || at.Cmp(high) > 0
		})
		return len(zs) < 2
	})
	return zs[0].Told(), api.Fault{}
}

func sumSpan(x, y *roots.Root, k int) (low, high num.Int) {
	low = x.Floor(k).Add(y.Floor(k))
	return low, low.Add(num.Of(1))
}

func productSpan(x, y *roots.Root, k int) (low, high num.Int) {
	// Both are closed in on by half as many bits, k being even: their product counts in parts of 2^k then.
	a, b, one := x.Floor(k/2), y.Floor(k/2), num.Of(1)
	c, d := a.Add(one), b.Add(one)
	ends := []num.Int{a.Mul(b), a.Mul(d), c.Mul(b), c.Mul(d)}
	return slices.MinFunc(ends, num.Int.Cmp), slices.MaxFunc(ends, num.Int.Cmp)
}

// sums is a polynomial that is 0 at each root of f and each root of g together.
func sums(f, g poly.Poly) poly.Poly {
	a, b, n := lead(f), lead(g), f.Degree()*g.Degree()
	// What is told is a b times the roots, so that all stays with integers.
	x, y := stretched(powers(f, n), b), stretched(powers(g, n), a)
	l := make([]num.Int, n+1)
	for k := range l {
		times := num.Of(1)
		for i := range k + 1 {
			l[k] = l[k].Add(times.Mul(x[i]).Mul(y[k-i]))
			times = share(times.Mul(num.Of(k-i)), num.Of(i+1))
		}
	}
	return withPowers(l, a.Mul(b))
}

// products is a polynomial that is 0 at each root of f times each root of g.
func products(f, g poly.Poly) poly.Poly {
	n := f.Degree() * g.Degree()
	x, y := powers(f, n), powers(g, n)
	for i := range x {
		x[i] = x[i].Mul(y[i])
	}
	return withPowers(x, lead(f).Mul(lead(g)))
}

// lead is the last coefficient of a polynomial that has integers as such.
func lead(f poly.Poly) num.Int {
	a, _ := f.Lead().Parts()
	return a
}

// powers is, for each k from 0 to n, the sum of all roots of f, each times its lead, to the k (Newton's way: the monic
// polynomial of these has integers as coefficients).
func powers(f poly.Poly, n int) []num.Int {
	m, a := f.Degree(), num.Of(1)
	cs := make([]num.Int, n+1)
	for i := 1; i <= min(m, n); i++ {
		c, _ := f.At(m - i).Parts()
		cs[i] = c.Mul(a)
		a = a.Mul(lead(f))
	}
	l := make([]num.Int, n+1)
	l[0] = num.Of(m)
	for k := 1; k <= n; k++ {
		l[k] = carried(cs, l, k).Add(cs[k].Mul(num.Of(k))).Neg()
	}
	return l
}

// carried is the sum of cs[i] times l[k - i], for each i from 1 on below k.
func carried(cs, l []num.Int, k int) num.Int {
	var sum num.Int
	for i := 1; i < k; i++ {
		sum = sum.Add(cs[i].Mul(l[k-i]))
	}
	return sum
}

// stretched is the same sums of a times each root.
func stretched(l []num.Int, a num.Int) []num.Int {
	m, power := make([]num.Int, len(l)), num.Of(1)
	for i, c := range l {
		m[i] = c.Mul(power)
		power = power.Mul(a)
	}
	return m
}

// withPowers is the polynomial of degree n of which l, from 0 to n, is the sums of the powers of a times each root.
func withPowers(l []num.Int, a num.Int) poly.Poly {
	n := len(l) - 1
	cs := make([]num.Int, n+1)
	cs[0] = num.Of(1)
	for k := 1; k <= n; k++ {
		cs[k] = share(carried(cs, l, k).Add(l[k]).Neg(), num.Of(k))
	}
	slices.Reverse(cs)
	xs := make([]num.Frac, n+1)
	for i, c := range stretched(cs, a) {
		xs[i] = num.Whole(c)
	}
	return poly.Of(xs...)
}

// share is a over b, which divides it.
func share(a, b num.Int) num.Int {
	q, _, _ := a.Div(b)
	return q
}
