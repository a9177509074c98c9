package real

import (
	"fmt"
	"testing"

	"radicand/api"
	"radicand/num"
	"radicand/poly"
)

// P5.2, and Of

func TestRoots(t *testing.T) {
	for _, c := range [][2]string{
		{"0 -2 0 1", "[{[-2 0 1] 0} {[0 1] 0} {[-2 0 1] 1}]"}, {"5", "[]"}, {"-1/3", "[]"}, {"1 0 1", "[]"}, {"0 1", "[{[0 1] 0}]"},
		{"0 0 0 7", "[{[0 1] 0}]"}, {"1 -2 1", "[{[-1 1] 0}]"}, {"-6 4", "[{[-3 2] 0}]"}, {"1/2 1/3", "[{[3 2] 0}]"}, {"2 0 -1", "[{[-2 0 1] 0} {[-2 0 1] 1}]"},
		{"4 0 -4 0 1", "[{[-2 0 1] 0} {[-2 0 1] 1}]"}, {"1 0 -10 0 1", "[{[1 0 -10 0 1] 0} {[1 0 -10 0 1] 1} {[1 0 -10 0 1] 2} {[1 0 -10 0 1] 3}]"},
		// Roots of more than one polynomial, between one another: of 2, of 3, 3/2, and the third root of 3.
		{"-9 6 0 3 -2", "[{[-3 0 0 1] 0} {[-3 2] 0}]"}, {"6 0 -5 0 1", "[{[-3 0 1] 0} {[-2 0 1] 0} {[-2 0 1] 1} {[-3 0 1] 1}]"},
		{"-18 0 15 6 -3 -5 0 1", "[{[-3 0 1] 0} {[-2 0 1] 0} {[-2 0 1] 1} {[-3 0 0 1] 0} {[-3 0 1] 1}]"},
		{"-2 0 0 1", "[{[-2 0 0 1] 0}]"}, {"-1 1 -1 1", "[{[-1 1] 0}]"}, {"-1 0 0 0 1", "[{[1 1] 0} {[-1 1] 0}]"},
		{"1 -1 -1 1", "[{[1 1] 0} {[-1 1] 0}]"}, {"1/6 -5/6 1", "[{[-1 3] 0} {[-1 2] 0}]"},
	} {
		l, f := Roots(polyOf(t, c[0]))
		want(t, "fault", f, none)
		got := fmt.Sprint(l)
		want(t, c[0], got, c[1])
	}
}

func TestRootsFaults(t *testing.T) {
	for _, c := range []struct {
		p    poly.Poly
		code int
	}{{poly.Poly{}, api.ErrZero}, {of(0), api.ErrZero}, {power(17), api.ErrMany}, {power(300), api.ErrMany}, {power(16), 0}} {
		l, f := Roots(c.p)
		want(t, "fault", f, fault(c.code, 0))
		if c.code != 0 {
			want(t, "none", len(l), 0)
		}
	}
}

// wantRoots is a failure, if these are not all real roots of p, rising: Sturm's chains tell.
func wantRoots(t *testing.T, p poly.Poly) []api.Alg {
	t.Helper()
	l, f := Roots(p)
	want(t, "fault", f, none)
	all := chain(p)
	for i, a := range l {
		g := readLong(a.F)
		_, rest, _ := p.Div(g)
		want(t, told(a)+" divides", rest.Degree(), -1)
		lo, hi := bracket(t, a, 40)
		if atMost(all, hi)-atMost(all, lo) == 1 {
			want(t, "order of "+told(a), atMost(all, lo), i)
			wantIn(t, told(a), a, lo, hi)
		}
	}
	top, _ := num.Of(10).Pow(100)
	want(t, "number of roots", len(l), atMost(all, num.Whole(top))-atMost(all, num.Whole(top.Neg())))
	return l
}

func TestRootsAreSturms(t *testing.T) {
	d := draw{3}
	for range 300 {
		p := d.poly(1+d.below(6), []int{1, 5, 1000}[d.below(3)])
		for p.Degree() < 13 && d.below(3) > 0 {
			q := d.poly(1+d.below(3), 5)
			p = p.Mul(q)
			if p.Degree()+q.Degree() <= 16 && d.below(2) == 0 {
				p = p.Mul(q)
			}
		}
		wantRoots(t, p.Scale(d.nonzero()))
	}
	for n := 1; n <= 16; n++ {
		wantRoots(t, power(n).Sub(of(2)))
		wantRoots(t, power(n).Sub(of(1)))
		wantRoots(t, power(n).Add(of(1)))
		wantRoots(t, power(16).Add(power(n)).Sub(of(7, 3)))
	}
}

// nonzero is a fraction but 0.
func (d *draw) nonzero() num.Frac {
	for {
		if x := d.frac(); x.Sign() != 0 {
			return x
		}
	}
}

// Roots of different polynomials very close together.
func TestRootsThatAreClose(t *testing.T) {
	for _, n := range []int{5, 100, 900} {
		far := longInt("1" + nulls(n-1) + "1")
		// a^2 x^2 - a^2 - 1, and x - 1: the root is above 1 by half of 1/a^2.
		a := num.Whole(far.Mul(far))
		p, q := poly.Of(a.Neg().Sub(whole(1)), whole(0), a), of(-1, 1)
		l, f := Roots(p.Mul(q))
		want(t, "fault", f, none)
		want(t, "number of roots", len(l), 3)
		want(t, "degrees", len(l[0].F)*100+len(l[1].F)*10+len(l[2].F), 323)
		want(t, "the last", l[2].K, 1)
		l, _ = Roots(p.Mul(q).Mul(poly.Of(a.Neg().Sub(whole(2)), whole(0), a)))
		want(t, "number of roots", len(l), 5)
		want(t, "the first", l[0].F[0], a.Neg().Sub(whole(2)).Text())
		want(t, "the next", l[1].F[0], a.Neg().Sub(whole(1)).Text())
		want(t, "1", told(l[2]), "-1 1 K 0")
		want(t, "the next but one", l[3].F[0], a.Neg().Sub(whole(1)).Text())
		want(t, "the last", l[4].F[0], a.Neg().Sub(whole(2)).Text())
	}
}

// Coefficients that are longer than what New reads.
func TestRootsOfLongNumbers(t *testing.T) {
	d := draw{4}
	for _, n := range []int{1, 2, 5, 16} {
		cs := make([]num.Frac, n+1)
		for i := range cs {
			cs[i], _ = num.Over(d.long(900), d.long(300))
		}
		p := poly.Of(cs...)
		l, f := Roots(p)
		want(t, "fault", f, none)
		_, q := p.Primitive()
		for _, a := range l {
			want(t, "irreducible as a whole", readLong(a.F).Same(q), true)
		}
		if n%2 == 1 {
			want(t, "some", len(l) > 0, true)
		}
		if n > 1 {
			_, f = Neg(api.Alg{F: q.Texts()})
			want(t, "too long to be read", f.Code, api.ErrLong)
		}
	}
}

// What is answered is new.
func TestRootsAreNew(t *testing.T) {
	p := polyOf(t, "0 -2 0 1")
	l, _ := Roots(p)
	wanted := fmt.Sprint(l)
	for i, a := range l {
		for j := range a.F {
			a.F[j] = "7"
		}
		for _, b := range l[i+1:] {
			want(t, "shared", b.F[0] == "7", false)
		}
	}
	l, _ = Roots(p)
	want(t, "again", fmt.Sprint(l), wanted)
	a := alg("-2 0 1", 1)
	b, _ := Neg(a)
	c, _ := Mul(a, Of(whole(1)))
	b.F[0], c.F[0] = "7", "7"
	want(t, "argument", told(a), "-2 0 1 K 1")
}

func TestOf(t *testing.T) {
	for _, c := range [][2]string{{"0", "0 1"}, {"1", "-1 1"}, {"-1", "1 1"}, {"2/3", "-2 3"}, {"-2/3", "2 3"}, {"6/4", "-3 2"}, {"1000000000000000000000", "-1000000000000000000000 1"}} {
		a := Of(frac(c[0]))
		want(t, c[0], told(a), c[1]+" K 0")
		b, f := Neg(a)
		want(t, "fault", f, none)
		want(t, "opposite", told(b), told(Of(frac(c[0]).Neg())))
	}
}
