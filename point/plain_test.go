package point

import (
	"math/big"

	"radicand/api"
)

// The plain way that the chapter names: a number is a polynomial in the last root, with numbers of the roots ahead as
// coefficients; a root is told by a polynomial without squares and two fractions. Nothing is rounded.

// A level is a root above other ones. The level nil is that of the fractions.
type level struct {
	below  *level
	f      []value // monic; what is found to be 0 at the root makes it shorter
	lo, hi *big.Rat
}

// A value is a fraction, or a polynomial in the root of a level, the lowest coefficient first.
type value struct {
	x  *big.Rat
	cs []value
}

func (l *level) of(x *big.Rat) value {
	if l == nil {
		return value{x: x}
	}
	return value{cs: []value{l.below.of(x)}}
}

func (l *level) root() value {
	return value{cs: []value{l.below.of(new(big.Rat)), l.below.of(big.NewRat(1, 1))}}
}

func (l *level) add(a, b value) value {
	if l == nil {
		return value{x: new(big.Rat).Add(a.x, b.x)}
	}
	return value{cs: l.below.addAll(a.cs, b.cs)}
}

func (l *level) mul(a, b value) value {
	if l == nil {
		return value{x: new(big.Rat).Mul(a.x, b.x)}
	}
	_, rest := l.below.divide(l.below.mulAll(a.cs, b.cs), l.f)
	return value{cs: rest}
}

func (l *level) neg(a value) value { return l.mul(a, l.of(big.NewRat(-1, 1))) }

// What follows is done to polynomials whose coefficients are values of l.

func (l *level) addAll(a, b []value) []value {
	s := append([]value(nil), a...)
	for i, c := range b {
		if i < len(s) {
			s[i] = l.add(s[i], c)
		} else {
			s = append(s, c)
		}
	}
	return s
}

func (l *level) mulAll(a, b []value) []value {
	var p []value
	for i, c := range a {
		row := make([]value, i, i+len(b))
		for j := range row {
			row[j] = l.of(new(big.Rat))
		}
		for _, d := range b {
			row = append(row, l.mul(c, d))
		}
		p = l.addAll(p, row)
	}
	return p
}

func (l *level) trim(p []value) []value {
	for len(p) > 0 && l.zero(p[len(p)-1]) {
		p = p[:len(p)-1]
	}
	return p
}

func (l *level) monic(p []value) []value { return l.mulAll(p, []value{l.over(p[len(p)-1])}) }

// divide is a divided by b, whose last coefficient is not 0, and what is left.
func (l *level) divide(a, b []value) (q, rest []value) {
	a = l.trim(a)
	over := l.over(b[len(b)-1])
	q = make([]value, max(0, len(a)-len(b)+1))
	for len(a) >= len(b) {
		c, at := l.mul(a[len(a)-1], over), len(a)-len(b)
		q[at] = c
		part := make([]value, at)
		for i := range part {
			part[i] = l.of(new(big.Rat))
		}
		a = l.addAll(a, append(part, l.mulAll(b, []value{l.neg(c)})...))
		a = l.trim(a[:len(a)-1])
	}
	for i, c := range q {
		if c.x == nil && c.cs == nil {
			q[i] = l.of(new(big.Rat))
		}
	}
	return q, a
}

func (l *level) gcd(a, b []value) []value {
	a, b = l.trim(a), l.trim(b)
	for len(b) > 0 {
		_, rest := l.divide(a, b)
		a, b = b, rest
	}
	return l.monic(a)
}

func (l *level) derive(p []value) []value {
	var d []value
	for i := 1; i < len(p); i++ {
		d = append(d, l.mul(p[i], l.of(big.NewRat(int64(i), 1))))
	}
	return d
}

func (l *level) eval(p []value, x *big.Rat) value {
	v := l.of(new(big.Rat))
	for i := len(p) - 1; i >= 0; i-- {
		v = l.add(l.mul(v, l.of(x)), p[i])
	}
	return v
}

// zero: is a, a value of l, 0?
func (l *level) zero(a value) bool {
	if l == nil {
		return a.x.Sign() == 0
	}
	cs := l.below.trim(a.cs)
	if len(cs) == 0 {
		return true
	}
	g := l.below.gcd(l.f, cs)
	if len(g) == 1 {
		return false
	}
	if l.below.sign(l.below.eval(g, l.lo)) != l.below.sign(l.below.eval(g, l.hi)) {
		l.f = g
		return true
	}
	q, _ := l.below.divide(l.f, g)
	l.f = l.below.monic(l.below.trim(q))
	return false
}

// over is 1 over a, which is not 0.
func (l *level) over(a value) value {
	if l == nil {
		return value{x: new(big.Rat).Inv(a.x)}
	}
	// After this f and a have no common divisor.
	if l.zero(a) {
		panic("0")
	}
	b := l.below
	_, r1 := b.divide(a.cs, l.f)
	r0, s0, s1 := l.f, []value(nil), []value{b.of(big.NewRat(1, 1))}
	for r1 = b.trim(r1); len(r1) > 1; {
		q, rest := b.divide(r0, r1)
		r0, r1 = r1, rest
		s0, s1 = s1, b.addAll(s0, b.mulAll(b.mulAll(q, s1), []value{b.of(big.NewRat(-1, 1))}))
	}
	return value{cs: b.mulAll(s1, []value{b.over(r1[0])})}
}

// halve makes the span of the root half as long, or short about the middle, if it is there.
func (l *level) halve() {
	mid := new(big.Rat).Add(l.lo, l.hi)
	mid.Mul(mid, big.NewRat(1, 2))
	switch l.below.sign(l.below.eval(l.f, mid)) {
	case 0:
		l.f = []value{l.below.of(new(big.Rat).Neg(mid)), l.below.of(big.NewRat(1, 1))}
		way := new(big.Rat).Mul(new(big.Rat).Sub(l.hi, l.lo), big.NewRat(1, 64))
		l.lo, l.hi = new(big.Rat).Sub(mid, way), new(big.Rat).Add(mid, way)
	case l.below.sign(l.below.eval(l.f, l.lo)):
		l.lo = mid
	default:
		l.hi = mid
	}
}

// sign of a value of l.
func (l *level) sign(a value) int {
	if l == nil {
		return a.x.Sign()
	}
	if l.zero(a) {
		return 0
	}
	for {
		p := l.below.trim(a.cs)
		lo, hi := l.below.eval(p, l.lo), l.below.eval(p, l.hi)
		if !l.below.zero(lo) && !l.below.zero(hi) && l.below.count(p, l.lo, l.hi) == 0 {
			return l.below.sign(lo)
		}
		l.halve()
	}
}

// count is how many roots p, whose last coefficient is not 0, has between lo and hi, at which it is not 0 (Sturm's way).
func (l *level) count(p []value, lo, hi *big.Rat) int {
	a, b := p, l.trim(l.derive(p))
	changes, at := [2]int{}, [2]int{}
	for len(a) > 0 {
		for i, x := range []*big.Rat{lo, hi} {
			s := l.sign(l.eval(a, x))
			if s*at[i] < 0 {
				changes[i]++
			}
			if s != 0 {
				at[i] = s
			}
		}
		if len(b) == 0 {
			break
		}
		_, rest := l.divide(a, b)
		a, b = b, l.trim(l.mulAll(rest, []value{l.of(big.NewRat(-1, 1))}))
	}
	return changes[0] - changes[1]
}

// roots is the real roots, rising, of p, a polynomial with values of l as coefficients that is not 0.
func (l *level) roots(p []value) []*level {
	p = l.trim(p)
	if len(p) == 1 {
		return nil
	}
	f, _ := l.divide(p, l.gcd(p, l.derive(p)))
	f = l.monic(l.trim(f))
	// All of them are nearer to 0 than one more than the sum of the sizes of the coefficients.
	far := big.NewRat(1, 1)
	for _, c := range f {
		n := big.NewRat(1, 1)
		for l.sign(l.add(l.mul(c, c), l.of(new(big.Rat).Neg(n)))) > 0 {
			n.Mul(n, big.NewRat(4, 1))
		}
		far.Add(far, n)
	}
	return l.between(f, new(big.Rat).Neg(far), far)
}

// between is the roots of f, which no square divides, between lo and hi, at which it is not 0.
func (l *level) between(f []value, lo, hi *big.Rat) []*level {
	switch l.count(f, lo, hi) {
	case 0:
		return nil
	case 1:
		return []*level{{l, f, lo, hi}}
	}
	for n := int64(2); ; n++ {
		mid := new(big.Rat).Sub(hi, lo)
		mid.Mul(mid, big.NewRat(n-1, 2*n-1)).Add(mid, lo)
		if !l.zero(l.eval(f, mid)) {
			return append(l.between(f, lo, mid), l.between(f, mid, hi)...)
		}
	}
}

// at is what p comes to where its variables are the roots of l and those ahead; n of them.
func (l *level) at(p []api.Term, n int) value {
	powers := make([]value, n)
	m := l
	for i := n - 1; i >= 0; i-- {
		powers[i] = m.root()
		for k := m; k != l; {
			up := l
			for up.below != k {
				up = up.below
			}
			powers[i], k = value{cs: []value{powers[i]}}, up
		}
		m = m.below
	}
	sum := l.of(new(big.Rat))
	for _, t := range p {
		c, _ := new(big.Rat).SetString(t.C)
		v := l.of(c)
		for i, e := range t.E[:n] {
			for range e {
				v = l.mul(v, powers[i])
			}
		}
		sum = l.add(sum, v)
	}
	return sum
}

// by is what p, a polynomial of one variable more, is at the roots of l, as a polynomial in that variable.
func (l *level) by(p []api.Term, n int) []value {
	most := 0
	for _, t := range p {
		most = max(most, t.E[n])
	}
	cs := make([]value, most+1)
	for i := range cs {
		var part []api.Term
		for _, t := range p {
			if t.E[n] == i {
				part = append(part, t)
			}
		}
		cs[i] = l.at(part, n)
	}
	return l.trim(cs)
}
