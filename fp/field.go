package fp

import (
	"cmp"
	"math/bits"
	"slices"
)

// A field is the numbers from 0 to p - 1, reckoned with modulo p.
type field struct {
	p    int
	full int // p times p: no less than any product, and so short that its double is an int
}

// fieldOf is the numbers modulo p, which is at most MaxPrime.
func fieldOf(p int) field { return field{p, p * p} }

// least is a, which is not below 0, modulo p. (To divide without signs takes less time.)
func (k field) least(a int) int { return int(uint(a) % uint(k.p)) }

func (k field) opposite(a int) int {
	if a == 0 {
		return 0
	}
	return k.p - a
}

// raise is a to the n, which is not below 0.
func (k field) raise(a, n int) int {
	x := 1
	for i := bits.Len(uint(n)) - 1; i >= 0; i-- {
		x = k.least(x * x)
		if n>>i&1 == 1 {
			x = k.least(x * a)
		}
	}
	return x
}

// inverse is 1 over a, which is not 0 (Euclid's way: b is t times a at each step).
func (k field) inverse(a int) int {
	b, before := a, k.p
	t, was := 1, 0
	for b > 1 {
		q := before / b
		b, before = before-q*b, b
		t, was = was-q*t, t
	}
	if t < 0 {
		return t + k.p
	}
	return t
}

// Sums are lists of numbers from 0 to full - 1 that stand for what is left of them modulo p: to divide by p at each
// step would take most of the time. A polynomial is sums, too.

// gather adds c times the row to the first of the sums.
func (k field) gather(sums, row []int, c int) {
	sums = sums[:len(row)]
	for i, x := range row {
		s := sums[i] + c*x - k.full
		// The sign, all over, picks full just if it is wanted: a branch would often be guessed wrong.
		sums[i] = s + k.full&(s>>63)
	}
}

// settled is the polynomial for which the sums stand, in their room.
func (k field) settled(sums []int) []int {
	n := 0
	for i, s := range sums {
		sums[i] = k.least(s)
		if sums[i] != 0 {
			n = i + 1
		}
	}
	return sums[:n]
}

// product is f g, as sums.
func (k field) product(f, g []int) []int {
	if len(f) == 0 || len(g) == 0 {
		return nil
	}
	sums := make([]int, len(f)+len(g)-1)
	for i, c := range f {
		k.gather(sums[i:], g, c)
	}
	return sums
}

// less is f less g.
func (k field) less(f, g []int) []int {
	sums := make([]int, max(len(f), len(g)))
	copy(sums, f)
	k.gather(sums, g, k.p-1)
	return k.settled(sums)
}

// divide is the quotient of the sums and g, which is not 0, and what is left. Both stand in the sums' room then: the
// rest is its front, and the coefficients of the quotient take the places that the dividend leaves.
func (k field) divide(sums, g []int) (q, r []int) {
	n := len(g) - 1
	if len(sums) <= n {
		return nil, k.settled(sums)
	}
	over := k.inverse(g[n])
	for i := len(sums) - 1 - n; i >= 0; i-- {
		c := k.least(k.least(sums[i+n]) * over)
		k.gather(sums[i:], g[:n], k.opposite(c))
		sums[i+n] = c
	}
	return sums[n:], k.settled(sums[:n])
}

// quotient is f over g, which divides it.
func (k field) quotient(f, g []int) []int {
	q, _ := k.divide(slices.Clone(f), g)
	return q
}

// rest is what is left of the sums divided by g, in their room.
func (k field) rest(sums, g []int) []int {
	_, r := k.divide(sums, g)
	return r
}

// monic is f over its last coefficient; 0 of 0.
func (k field) monic(f []int) []int {
	g := make([]int, len(f))
	if len(f) > 0 {
		k.gather(g, f, k.inverse(f[len(f)-1]))
	}
	return k.settled(g)
}

// gcd is the monic greatest common divisor; 0 of 0 and 0.
func (k field) gcd(f, g []int) []int {
	f, g = slices.Clone(f), slices.Clone(g)
	for len(g) > 0 {
		f, g = g, k.rest(f, g)
	}
	return k.monic(f)
}

// power is what is left of f to the n, which is not below 0, divided by m, which is not 0.
func (k field) power(f []int, n int, m []int) []int {
	f = k.rest(slices.Clone(f), m)
	x := k.rest([]int{1}, m)
	for i := bits.Len(uint(n)) - 1; i >= 0; i-- {
		x = k.rest(k.product(x, x), m)
		if n>>i&1 == 1 {
			x = k.rest(k.product(x, f), m)
		}
	}
	return x
}

// derivative is that of f, which is not 0.
func (k field) derivative(f []int) []int {
	g := make([]int, len(f)-1)
	for i := range g {
		g[i] = k.least(i+1) * f[i+1]
	}
	return k.settled(g)
}

// compare tells, as cmp.Compare does, how f and g stand in order.
func compare(f, g []int) int {
	if len(f) != len(g) {
		return cmp.Compare(len(f), len(g))
	}
	for i := len(f) - 1; i >= 0; i-- {
		if f[i] != g[i] {
			return cmp.Compare(f[i], g[i])
		}
	}
	return 0
}
