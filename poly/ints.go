package poly

import "radicand/num"

// ints is a polynomial with integers as coefficients, the lowest first. The last may be 0, where nothing else is said.
type ints []num.Int

// From so many coefficients on, three products of halves take less time than four.
const halvesFrom = 24

// Add is a + b.
func (a ints) Add(b ints) ints {
	if len(a) < len(b) {
		a, b = b, a
	}
	s := make(ints, len(a))
	copy(s, a)
	s.take(b, num.Of(-1))
	return s
}

// take takes k times b from a, which has as many coefficients or more.
func (a ints) take(b ints, k num.Int) {
	for i, c := range b {
		a[i] = a[i].Sub(c.Mul(k))
	}
}

// scale makes a k times as much.
func (a ints) scale(k num.Int) {
	for i, c := range a {
		a[i] = c.Mul(k)
	}
}

// trimmed is a without the last coefficients that are 0.
func (a ints) trimmed() ints {
	for len(a) > 0 && a.lead().Sign() == 0 {
		a = a[:len(a)-1]
	}
	return a
}

// Mul is a times b.
func (a ints) Mul(b ints) ints {
	if len(a) < len(b) {
		a, b = b, a
	}
	if len(b) == 0 {
		return nil
	}
	p := make(ints, len(a)+len(b)-1)
	if len(b) < halvesFrom {
		for i, c := range b {
			p[i:].take(a, c.Neg())
		}
		return p
	}
	h := (len(a) + 1) / 2
	if len(b) <= h {
		copy(p, a[:h].Mul(b))
		p[h:].take(a[h:].Mul(b), num.Of(-1))
		return p
	}
	a.mulHalves(b, p, h)
	return p
}

// mulHalves sets p, whose coefficients are 0, to a times b, both of more than h coefficients and of 2 h at most
// (Karatsuba's way): with halves c, d of a and e, f of b, cf + de is (c + d)(e + f) - ce - df.
func (a ints) mulHalves(b, p ints, h int) {
	low, high := a[:h].Mul(b[:h]), a[h:].Mul(b[h:])
	middle := a[:h].Add(a[h:]).Mul(b[:h].Add(b[h:]))
	middle.take(low, num.Of(1))
	middle.take(high, num.Of(1))
	copy(p, low)
	copy(p[2*h:], high)
	p[h:].take(middle, num.Of(-1))
}

// lead is the last coefficient of an a that has some.
func (a ints) lead() num.Int { return a[len(a)-1] }

// primitive is k and b with a = k b, where b has no common divisor but 1, and its last coefficient is above 0;
// the last of a is not 0. (0 and nothing, if a has no coefficients.)
func (a ints) primitive() (num.Int, ints) {
	var k num.Int
	for _, c := range a {
		if k = num.Gcd(k, c); isOne(k) {
			break
		}
	}
	if len(a) > 0 && a.lead().Sign() < 0 {
		k = k.Neg()
	}
	b := make(ints, len(a))
	for i, c := range a {
		b[i] = share(c, k)
	}
	return k, b
}

// over is a over d, and whether that has integers as coefficients; the last coefficients of both are not 0.
func (a ints) over(d ints) (ints, bool) {
	if len(a) < len(d) {
		return nil, len(a) == 0
	}
	n := len(d) - 1
	r, q := make(ints, len(a)), make(ints, len(a)-n)
	copy(r, a)
	for i := len(q) - 1; i >= 0; i-- {
		c, rest, _ := r[i+n].Div(d[n])
		if rest.Sign() != 0 {
			return nil, false
		}
		q[i] = c
		r[i:].take(d[:n], c)
	}
	for _, c := range r[:n] {
		if c.Sign() != 0 {
			return nil, false
		}
	}
	return q, true
}

// share is a divided by d, which is not 0 and divides it.
func share(a, d num.Int) num.Int {
	if isOne(d) {
		return a
	}
	q, _, _ := a.Div(d)
	return q
}

func isOne(a num.Int) bool {
	n, is := a.Small()
	return is && n == 1
}
