package poly

import (
	"testing"

	"radicand/api"
	"radicand/num"
)

// P2.3

func TestDiv(t *testing.T) {
	for _, c := range [][4]string{{"-1 0 1", "-1 1", "1 1", ""}, {"1 0 1", "-1 1", "1 1", "2"}, {"1 2 3", "2", "1/2 1 3/2", ""},
		{"1 2", "1 2 3", "", "1 2"}, {"", "5 7", "", ""}, {"1 2 3", "1 2 3", "1", ""}, {"0 0 0 1", "1 2", "1/8 -1/4 1/2", "-1/8"},
		{"0 0 0 -6", "1 0 -4", "0 3/2", "0 -3/2"}, {"1/2 1/3 1/5", "1/7 1/11", "22/105 11/5", "691/1470"}, {"5 7", "3", "5/3 7/3", ""},
		{"1 0 0 0 1", "1 0 2", "-1/4 0 1/2", "5/4"}} {
		q, r, f := read(t, c[0]).Div(read(t, c[1]))
		want(t, "fault", f, fault(0, 0))
		wantPoly(t, c[0]+" by "+c[1], q, c[2])
		wantPoly(t, c[0]+" by "+c[1], r, c[3])
	}
	for _, p := range []Poly{{}, read(t, "1"), read(t, "1 2 3")} {
		q, r, f := p.Div(Poly{})
		want(t, "fault", f, fault(api.ErrZero, 0))
		wantPoly(t, "quotient", q, "")
		wantPoly(t, "rest", r, "")
	}
}

func TestDivOfManyKinds(t *testing.T) {
	d := draw{7}
	for range 1500 {
		p, b := d.poly(d.below(kinds), 12), d.nonzero(d.below(kinds), 6)
		q, r, f := p.Div(b)
		want(t, "fault", f, fault(0, 0))
		want(t, "degree", r.Degree() < b.Degree(), true)
		wantSame(t, "q d + r", q.Mul(b).Add(r), p)
		q, r, _ = p.Mul(b).Div(b)
		wantSame(t, "quotient of a product", q, p)
		wantPoly(t, "rest of a product", r, "")
	}
}

// P2.4

func TestGcd(t *testing.T) {
	for _, c := range [][3]string{{"-1 0 1", "-1 1", "-1 1"}, {"", "", ""}, {"", "2 4", "1/2 1"}, {"2 4", "", "1/2 1"}, {"", "7", "1"}, {"7", "1 1", "1"},
		{"1 1", "7/2", "1"}, {"3", "5", "1"}, {"-2 0 1", "2 0 1", "1"}, {"2 4", "3 6", "1/2 1"}, {"-1 0 0 0 0 0 1", "-1 0 0 0 1", "-1 0 1"},
		{"0 0 0 1", "0 0 5 7", "0 0 1"}, {"1/6 5/6 1", "1/3 1", "1/3 1"}} {
		wantPoly(t, c[0]+" and "+c[1], Gcd(read(t, c[0]), read(t, c[1])), c[2])
	}
}

func TestGcdOfProducts(t *testing.T) {
	d := draw{8}
	for range 400 {
		kind := d.below(kinds)
		a, b, c := d.poly(kind, 4), d.poly(kind, 4), d.poly(kind, 4)
		p, q := a.Mul(c), b.Mul(c)
		wantSame(t, told(p)+" and "+told(q), Gcd(p, q), plainGcd(p, q))
		wantSame(t, "the other way round", Gcd(q, p), Gcd(p, q))
	}
}

// Modulo the primes that the way goes over, some of these have another divisor than they have.
func misleading(t *testing.T) [][2]Poly {
	p, q := "9223372036854775783", "9223372036854775643"
	both := frac(t, p).Mul(frac(t, q)).Text()
	return [][2]Poly{
		{read(t, "0 1"), read(t, p+" 1")},
		{read(t, "0 1"), read(t, q+" 1")},
		{read(t, "0 1"), read(t, both+" 1")},
		{read(t, "1 "+p), read(t, "1 "+q)},
		{read(t, "1 1 "+p), read(t, "1 1")},
		{read(t, "1 1"), read(t, "1 1 "+both)},
		{read(t, "1 "+p), read(t, "2 "+p)},
		{read(t, p+" 0 1"), read(t, q+" 0 1")},
		{read(t, "0 0 1"), read(t, p+" "+q+" 1")},
		{read(t, "1/"+p+" 1"), read(t, "1/"+q+" 1")},
		{read(t, "1/"+p+" 0 "+q), read(t, p+" "+p)},
		{read(t, p), read(t, "1 "+p)},
	}
}

func TestGcdWhereAPrimeMisleads(t *testing.T) {
	d := draw{9}
	for _, c := range misleading(t) {
		wantSame(t, "as it is", Gcd(c[0], c[1]), plainGcd(c[0], c[1]))
		for kind := range 2 * kinds {
			g := d.nonzero(kind, 3)
			p, q := c[0].Mul(g), c[1].Mul(g)
			wantSame(t, "with a divisor", Gcd(p, q), plainGcd(p, q))
			wantSame(t, "with a divisor", Gcd(q, p), plainGcd(p, q))
		}
	}
}

// A divisor whose coefficients are as long as many primes, or 0 modulo the first of them.
func TestLongGcd(t *testing.T) {
	d := draw{10}
	k := one()
	for range 40 {
		k = k.Mul(number(1<<62 + int(d.next()>>2)))
		g := Of(k.Sub(one()), k.Neg(), number(3), k.Add(number(7)))
		p, q := g.Mul(read(t, "1 0 5 1")), g.Mul(read(t, "-7 3 2"))
		wantSame(t, "divisor", Gcd(p, q), g.Monic())
	}
	g := Of(frac(t, "9223372036854775783"), frac(t, "1/9223372036854775643"), one())
	wantSame(t, "divisor", Gcd(g.Mul(read(t, "1 1")), g.Mul(read(t, "2 1"))), g)
}

// P2.5

func TestBezout(t *testing.T) {
	for _, c := range [][5]string{{"-1 0 1", "-1 1", "-1 1", "", "1"}, {"-1 1", "-1 0 1", "-1 1", "1", ""}, {"", "", "", "", ""},
		{"2 4", "", "1/2 1", "1/4", ""}, {"", "2 4", "1/2 1", "", "1/4"}, {"5", "", "1", "1/5", ""}, {"", "-5", "1", "", "-1/5"},
		{"3", "5", "1", "", "1/5"}, {"1 1", "5", "1", "", "1/5"}, {"5", "1 1", "1", "1/5", ""}, {"2 4", "3 6", "1/2 1", "", "1/6"},
		{"0 1", "1 1", "1", "-1", "1"}, {"1 0 1", "0 1", "1", "1", "0 -1"}} {
		g, u, v := Bezout(read(t, c[0]), read(t, c[1]))
		wantPoly(t, c[0]+" and "+c[1], g, c[2])
		wantPoly(t, c[0]+" and "+c[1]+", u", u, c[3])
		wantPoly(t, c[0]+" and "+c[1]+", v", v, c[4])
	}
}

// wantBezout is a failure, if Bezout does not tell what the document says.
func wantBezout(t *testing.T, p, q Poly) {
	t.Helper()
	g, u, v := Bezout(p, q)
	wantSame(t, "g", g, plainGcd(p, q))
	wantSame(t, "u p + v q", plainMul(u, p).Add(plainMul(v, q)), g)
	if q.Degree() >= 0 {
		// (0 has a lower degree than all others here.)
		want(t, "degree of u", u.Degree() < max(q.Degree()-g.Degree(), 1) && (q.Degree() > g.Degree() || u.Degree() < 0), true)
		return
	}
	wantPoly(t, "v", v, "")
	if p.Degree() >= 0 {
		k, _ := one().Quo(p.Lead())
		wantSame(t, "u", u, Of(k))
	}
}

func TestBezoutOfManyKinds(t *testing.T) {
	d := draw{11}
	for range 500 {
		kind := d.below(kinds)
		p, q, c := d.poly(kind, 5), d.poly(kind, 5), d.poly(d.below(kinds), 2)
		wantBezout(t, p, q)
		wantBezout(t, p.Mul(c), q.Mul(c))
		wantBezout(t, p.Mul(c), c)
	}
}

func TestBezoutWhereAPrimeMisleads(t *testing.T) {
	for _, c := range misleading(t) {
		wantBezout(t, c[0], c[1])
		wantBezout(t, c[1], c[0])
		g := read(t, "1/3 -5 2")
		wantBezout(t, c[0].Mul(g), c[1].Mul(g))
	}
}

// With high degrees: u p + v q is g, and nothing else could be told.
func TestBezoutOfHighDegrees(t *testing.T) {
	d := draw{12}
	cs, ds := make([]num.Frac, 61), make([]num.Frac, 81)
	for i := range cs {
		cs[i] = number(1 + d.below(9))
	}
	for i := range ds {
		ds[i] = number(-1 - d.below(9))
	}
	p, q, c := Of(cs...), Of(ds...), read(t, "3 0 1/2 7")
	g, u, v := Bezout(p.Mul(c), q.Mul(c))
	wantSame(t, "g", g, c.Monic())
	want(t, "degrees", u.Degree() < 80 && v.Degree() < 60, true)
	wantSame(t, "u p + v q", u.Mul(p).Add(v.Mul(q)).Mul(c), g)
}
