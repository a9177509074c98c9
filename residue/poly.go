package residue

import (
	"slices"

	"radicand/num"
)

// A polynomial of a field is the list of its coefficients, the lowest first, of which the last is not 0; 0 has none.

// List is what is left of each of the numbers; a list of coefficients, if nothing of the last one is lost.
func (f Field) List(as []num.Int) []uint64 {
	l := make([]uint64, len(as))
	for i, a := range as {
		l[i] = f.Of(a)
	}
	return l
}

// Scale is a times the polynomial.
func (f Field) Scale(a uint64, p []uint64) []uint64 {
	l := make([]uint64, len(p))
	for i, c := range p {
		l[i] = f.mul(a, c)
	}
	return l
}

// take takes c times b from a, which has as many numbers.
func (f Field) take(a, b []uint64, c uint64) {
	a = a[:len(b)]
	for i, x := range b {
		a[i] = f.sub(a[i], f.mul(x, c))
	}
}

// divide is the quotient of a and b, which is not 0, and what is left of a. Both stand in a then: the rest is its
// front, and the coefficients of the quotient take the places that the dividend leaves.
func (f Field) divide(a, b []uint64) (q, r []uint64) {
	n := len(b) - 1
	if len(a) <= n {
		return nil, a
	}
	over := f.inverse(b[n])
	for i := len(a) - 1 - n; i >= 0; i-- {
		c := f.mul(a[i+n], over)
		f.take(a[i:i+n], b[:n], c)
		a[i+n] = c
	}
	q, r = a[n:], a[:n:n]
	for n > 0 && r[n-1] == 0 {
		n--
	}
	return q, r[:n]
}

// Gcd is the monic greatest common divisor of two polynomials that are not 0.
func (f Field) Gcd(a, b []uint64) []uint64 {
	a, b = slices.Clone(a), slices.Clone(b)
	for len(b) > 0 {
		_, r := f.divide(a, b)
		a, b = b, r
	}
	return f.Scale(f.inverse(a[len(a)-1]), a)
}

// Resultant is that of two polynomials that are not 0.
func (f Field) Resultant(a, b []uint64) uint64 {
	d := descent{Field: f, a: slices.Clone(a), b: slices.Clone(b), resultant: f.one}
	d.run()
	return d.resultant
}

// Bezout is the resultant of a and b, and the u of a lower degree than b for which b divides the resultant less
// u a; b has degree 1 or more. The list of u has as many numbers as b has degrees, the last of them may be 0;
// where the resultant is 0 there are none.
func (f Field) Bezout(a, b []uint64) (uint64, []uint64) {
	n := len(b) - 1
	d := descent{Field: f, a: slices.Clone(a), b: slices.Clone(b), resultant: f.one, full: true}
	d.u, d.v = append(make([]uint64, 0, n), f.one), make([]uint64, 0, n)
	d.run()
	if d.resultant == 0 {
		return 0, nil
	}
	u := f.Scale(f.mul(d.resultant, f.inverse(d.b[0])), d.v)
	for len(u) < n {
		u = append(u, 0)
	}
	return d.resultant, u
}

// A descent is on the way to the resultant of two polynomials, the first and the second (Euclid's way).
type descent struct {
	Field
	a, b      []uint64 // lists of its own
	resultant uint64   // what the resultant of a and b is to be multiplied by
	full      bool     // whether u and v are kept
	u, v      []uint64 // a and b are u and v times the first, up to multiples of the second; with room up to its degree
}

// run goes on until b is a number, and the resultant is told.
func (d *descent) run() {
	for len(d.b) > 1 {
		m, n := len(d.a)-1, len(d.b)-1
		lead := d.b[n]
		q, r := d.divide(d.a, d.b)
		if len(r) == 0 {
			d.resultant = 0
			return
		}
		// What a loses of its degree m, each root of b gives its lead.
		d.resultant = d.mul(d.resultant, d.pow(lead, m-len(r)+1))
		if m%2 == 1 && n%2 == 1 {
			d.resultant = d.sub(0, d.resultant)
		}
		if d.full {
			d.u, d.v = d.v, d.without(q)
		}
		d.a, d.b = d.b, r
	}
	d.resultant = d.mul(d.resultant, d.pow(d.b[0], len(d.a)-1))
}

// without is u less q v, in u's room.
func (d *descent) without(q []uint64) []uint64 {
	if len(q) == 0 || len(d.v) == 0 {
		return d.u
	}
	u := d.u
	for len(u) < len(q)+len(d.v)-1 {
		u = append(u, 0)
	}
	for i, c := range q {
		d.take(u[i:i+len(d.v)], d.v, c)
	}
	return u
}
