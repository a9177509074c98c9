package poly

import (
	"strings"
	"testing"

	"radicand/api"
	"radicand/num"
)

// What stands behind // in the face.

func TestEval(t *testing.T) {
	for _, c := range [][3]string{{"1 2 3", "2", "17"}, {"1 2 3", "0", "1"}, {"1 2 3", "-1/3", "2/3"}, {"", "5", "0"}, {"7/2", "5", "7/2"},
		{"-2 0 1", "3/2", "1/4"}, {"1/2 1/3", "-3/2", "0"}, {"0 0 0 1", "1/10", "1/1000"}} {
		want(t, c[0]+" at "+c[1], read(t, c[0]).Eval(frac(t, c[1])).Text(), c[2])
	}
	d := draw{4}
	for range 300 {
		p, x := d.poly(d.below(kinds), 12), d.frac(d.below(kinds))
		var sum num.Frac
		power := one()
		for i := range p.Degree() + 1 {
			sum = sum.Add(p.At(i).Mul(power))
			power = power.Mul(x)
		}
		want(t, told(p), p.Eval(x).Text(), sum.Text())
	}
}

// P2.6

func TestCompose(t *testing.T) {
	for _, c := range [][3]string{{"0 0 1", "1 1", "1 2 1"}, {"1 2 3", "", "1"}, {"1 2 3", "2", "17"}, {"", "1 1", ""}, {"5", "1 1", "5"},
		{"1 1 1", "0 0 1", "1 0 1 0 1"}, {"-2 0 1", "1/2 1/2", "-7/4 1/2 1/4"}, {"0 1", "1 2 3", "1 2 3"}, {"1 2 3", "0 1", "1 2 3"},
		{"0 1 0 1/3", "0 -3/2", "0 -3/2 0 -9/8"}, {"1 -1/2 1/4", "2", "1"}} {
		p, f := read(t, c[0]).Compose(read(t, c[1]))
		want(t, "fault", f, fault(0, 0))
		wantPoly(t, c[0]+" at "+c[1], p, c[2])
	}
}

func TestComposeIsEvalAfterEval(t *testing.T) {
	d := draw{5}
	for range 200 {
		p, q, x := d.poly(d.below(kinds), 7), d.poly(d.below(kinds), 5), d.frac(d.below(kinds))
		c, f := p.Compose(q)
		want(t, "fault", f, fault(0, 0))
		want(t, "degree", c.Degree() <= max(p.Degree(), 0)*max(q.Degree(), 0), true)
		want(t, told(p)+" at "+told(q), c.Eval(x).Text(), p.Eval(q.Eval(x)).Text())
	}
}

// ofDegree is 1 + x + .. with so many degrees.
func ofDegree(n int) Poly {
	cs := make([]num.Frac, n+1)
	for i := range cs {
		cs[i] = one()
	}
	return Of(cs...)
}

func TestComposeOfHighDegrees(t *testing.T) {
	for _, c := range [][2]int{{200, 1}, {1, 200}, {20, 10}, {10, 20}, {2, 100}, {0, 200}, {200, 0}, {0, 999}, {999, 0}, {-1, 999}, {999, -1}} {
		p, f := ofDegree(c[0]).Compose(ofDegree(c[1]))
		want(t, "fault", f, fault(0, 0))
		want(t, "degree", p.Degree() <= api.MaxDegree, true)
		if c[0] > 0 && c[1] > 0 {
			want(t, "degree", p.Degree(), api.MaxDegree)
		}
	}
	p, _ := ofDegree(999).Compose(Of(number(-1)))
	wantPoly(t, "at a number", p, "")
	p, _ = ofDegree(1000).Compose(Of(number(-1)))
	wantPoly(t, "at a number", p, "1")
	for _, c := range [][2]int{{201, 1}, {1, 201}, {3, 67}, {67, 3}, {200, 2}, {15, 14}, {999, 999}} {
		p, f := ofDegree(c[0]).Compose(ofDegree(c[1]))
		want(t, "fault", f, fault(api.ErrMany, 0))
		wantPoly(t, "with a fault", p, "")
	}
}

// Shifted there and back, with the greatest degree.
func TestComposeThereAndBack(t *testing.T) {
	d := draw{6}
	cs := make([]num.Frac, api.MaxDegree+1)
	for i := range cs {
		cs[i] = number(1 + d.below(1000))
	}
	p := Of(cs...)
	q, _ := p.Compose(read(t, "3/2 5"))
	q, f := q.Compose(read(t, "-3/10 1/5"))
	want(t, "fault", f, fault(0, 0))
	wantSame(t, "back", q, p)
	want(t, "degree", strings.Count(told(q), " "), api.MaxDegree)
}
