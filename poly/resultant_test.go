package poly

import (
	"testing"

	"radicand/api"
	"radicand/num"
)

// P2.8

func TestResultant(t *testing.T) {
	for _, c := range [][3]string{{"-2 1", "-5 1", "-3"}, {"-5 1", "-2 1", "3"}, {"", "1 1", "0"}, {"1 1", "", "0"}, {"", "", "0"}, {"", "5", "0"},
		{"2", "3", "1"}, {"2", "1 1 1", "4"}, {"1 1 1 1", "2", "8"}, {"-1/2", "0 0 0 1", "-1/8"}, {"-1 0 1", "-1 1", "0"},
		{"1 0 1", "-2 0 1", "9"}, {"0 1", "7 1", "7"}, {"7 1", "0 1", "-7"}, {"6 5 1", "5 2", "-1"}, {"-2 0 0 1", "0 0 3", "108"},
		{"1/2 1/3", "1/5 1/7", "-1/210"}} {
		want(t, c[0]+" and "+c[1], Resultant(read(t, c[0]), read(t, c[1])).Text(), c[2])
	}
}

func TestResultantIsTheDeterminant(t *testing.T) {
	d := draw{13}
	for range 500 {
		kind := d.below(kinds)
		p, q := d.poly(kind, 5), d.poly(kind, 5)
		if d.below(5) == 0 {
			c := d.poly(0, 2)
			p, q = p.Mul(c), q.Mul(c)
		}
		want(t, told(p)+" and "+told(q), Resultant(p, q).Text(), plainResultant(p, q).Text())
	}
	for _, c := range misleading(t) {
		want(t, told(c[0])+" and "+told(c[1]), Resultant(c[0], c[1]).Text(), plainResultant(c[0], c[1]).Text())
		want(t, told(c[1])+" and "+told(c[0]), Resultant(c[1], c[0]).Text(), plainResultant(c[1], c[0]).Text())
	}
}

// What follows.
func TestResultantOfProducts(t *testing.T) {
	d := draw{14}
	for range 200 {
		kind := d.below(kinds)
		p, q, r := d.poly(kind, 4), d.poly(kind, 4), d.poly(kind, 4)
		want(t, "product", Resultant(p.Mul(q), r).Text(), Resultant(p, r).Mul(Resultant(q, r)).Text())
		if p.Degree() >= 0 && q.Degree() >= 0 {
			want(t, "0", Resultant(p, q).Sign() == 0, plainGcd(p, q).Degree() > 0)
		}
	}
}

// p and x - 3 have p at 3, p being of even degree; x^n - a and x^n - b have (a - b)^n.
func TestResultantOfTheGreatestDegree(t *testing.T) {
	cs := make([]num.Frac, api.MaxDegree+1)
	cs[0], cs[api.MaxDegree] = number(-2), one()
	p, q := Of(cs...), read(t, "-3 1")
	power, _ := num.Of(3).Pow(api.MaxDegree)
	want(t, "x - 3 first", Resultant(q, p).Text(), power.Sub(num.Of(2)).Text())
	want(t, "x - 3 last", Resultant(p, q).Text(), power.Sub(num.Of(2)).Text())
	cs[0] = number(-5)
	want(t, "x^n - 5", Resultant(Of(cs...), p).Text(), power.Text())
}

// P2.9

func TestDisc(t *testing.T) {
	for _, c := range [][2]string{{"6 5 1", "1"}, {"5 1", "1"}, {"5 7", "1"}, {"1 2 1", "0"}, {"-2 0 0 1", "-108"}, {"7 3 2", "-47"}, {"1 1 1 1", "-16"},
		{"1/4 0 1/3", "-1/3"}, {"-1 -1 0 0 0 1", "2869"}, {"1 0 0 0 1", "256"}, {"3 0 -2", "24"}} {
		d, f := read(t, c[0]).Disc()
		want(t, "fault", f, fault(0, 0))
		want(t, c[0], d.Text(), c[1])
	}
	for _, text := range []string{"", "1", "-7/3"} {
		d, f := read(t, text).Disc()
		want(t, text, f, fault(api.ErrNone, 0))
		want(t, text, d.Text(), "0")
	}
}

func TestDiscOfRoots(t *testing.T) {
	d := draw{15}
	for range 100 {
		n := 1 + d.below(7)
		roots := make([]num.Frac, n)
		lead := d.nonzero(1, 0).Lead()
		p, disc := Of(lead), one()
		for i := range roots {
			roots[i] = d.frac(d.below(2))
			p = p.Mul(Of(roots[i].Neg(), one()))
			for j := range i {
				apart := roots[i].Sub(roots[j])
				disc = disc.Mul(apart).Mul(apart)
			}
		}
		for range 2*n - 2 {
			disc = disc.Mul(lead)
		}
		got, f := p.Disc()
		want(t, "fault", f, fault(0, 0))
		want(t, told(p), got.Text(), disc.Text())
	}
}
