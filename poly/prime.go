package poly

import (
	"radicand/num"
	"radicand/residue"
)

// What Euclid's way makes of integers grows much longer than what it comes to. So it is gone modulo primes, and
// what it comes to is put together of what is left.

// gcd is the greatest common divisor of two polynomials that are primitive, or have no coefficients; it is so too.
func gcd(a, b ints) ints {
	if len(a) == 0 {
		return b
	}
	if len(b) == 0 {
		return a
	}
	lead := num.Gcd(a.lead(), b.lead())
	var l residue.Lift
	for f := residue.First(); ; f = f.Next() {
		x, y, ok := left(f, a, b)
		if !ok {
			continue
		}
		// Modulo a prime the degree may be too high, but not too low.
		row := f.Scale(f.Of(lead), f.Gcd(x, y))
		if len(row) == 1 {
			return ints{num.Of(1)}
		}
		if len(row) < l.Width() {
			l = residue.Lift{}
		}
		if l.Len() > 0 && len(row) > l.Width() {
			continue
		}
		l.Add(f, row)
		// Tried after 1, 2, 4, 8 .. primes: so the trials take no more time than the primes.
		if n := l.Len(); n&(n-1) != 0 {
			continue
		}
		if d := common(l.Numbers(), a, b); d != nil {
			return d
		}
	}
}

// common is the primitive part of d, whose last coefficient is not 0, if it divides a and b; else nothing.
func common(d, a, b ints) ints {
	_, d = d.primitive()
	if _, is := a.over(d); !is {
		return nil
	}
	if _, is := b.over(d); !is {
		return nil
	}
	return d
}

// left is what is left of a and b in f, and whether nothing of their last coefficients is lost.
func left(f residue.Field, a, b ints) (x, y []uint64, ok bool) {
	x, y = f.List(a), f.List(b)
	return x, y, x[len(x)-1] != 0 && y[len(y)-1] != 0
}

// lifted is the integers, none of them beyond the bound of a and b, of which each prime tells a row by what is left
// of a and b, but for those that tell none.
func lifted(a, b ints, row func(f residue.Field, x, y []uint64) []uint64) []num.Int {
	twice := bound(a, b).Mul(num.Of(2))
	var l residue.Lift
	for f := residue.First(); ; f = f.Next() {
		if x, y, ok := left(f, a, b); ok {
			if r := row(f, x, y); r != nil {
				l.Add(f, r)
			}
		}
		if l.Product().Cmp(twice) > 0 {
			return l.Numbers()
		}
	}
}

// bound is a number that no determinant of the rows of Resultant, or of some of these rows and columns, is above
// (Hadamard's): the product of the lengths of all rows.
func bound(a, b ints) num.Int {
	one := num.Of(1)
	n := raise(a.square(), len(b)-1, one).Mul(raise(b.square(), len(a)-1, one))
	r, _ := n.Root(2)
	return r.Add(one)
}

// square is the sum of the squares of the coefficients.
func (a ints) square() num.Int {
	var s num.Int
	for _, c := range a {
		s = s.Add(c.Mul(c))
	}
	return s
}

// resultant is that of two polynomials whose last coefficients are not 0.
func resultant(a, b ints) num.Int {
	return lifted(a, b, func(f residue.Field, x, y []uint64) []uint64 {
		return []uint64{f.Resultant(x, y)}
	})[0]
}

// bezout is the resultant of two polynomials without a common divisor, the second of degree 1 or more, and the
// u and v of lower degrees than b and a with which u a + v b is the resultant.
func bezout(a, b ints) (r num.Int, u, v ints) {
	ns := lifted(a, b, func(f residue.Field, x, y []uint64) []uint64 {
		r, u := f.Bezout(x, y)
		if r == 0 {
			return nil
		}
		return append(u, r)
	})
	r, u = ns[len(ns)-1], ns[:len(ns)-1]
	rest := make(ints, len(a)+len(u)-1)
	rest[0] = r
	rest.take(a.Mul(u), num.Of(1))
	v, _ = rest.trimmed().over(b)
	return r, u, v
}
