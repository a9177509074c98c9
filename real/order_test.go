package real

import (
	"testing"

	"radicand/api"
	"radicand/num"
	"radicand/poly"
)

// Cmp and Sign

func wantCmp(t *testing.T, a, b api.Alg, wanted int) {
	t.Helper()
	c, f := Cmp(a, b)
	want(t, "fault", f, none)
	want(t, told(a)+" and "+told(b), c, wanted)
}

func wantSign(t *testing.T, p poly.Poly, a api.Alg, wanted int) {
	t.Helper()
	s, f := Sign(p, a)
	want(t, "fault", f, none)
	want(t, short(told(api.Alg{F: p.Texts()}))+" at "+told(a), s, wanted)
}

func TestCmp(t *testing.T) {
	rising := []api.Alg{alg("-3 0 1", 0), alg("3 2", 0), alg("-2 0 1", 0), alg("1 1", 0), alg("0 1", 0), alg("1 0 -10 0 1", 2), alg("-1 3", 0), alg("-1 2", 0),
		alg("-2 0 0 1", 0), alg("-2 0 1", 1), alg("-3 2", 0), alg("-3 0 1", 1), alg("-22 7", 0), alg("1 0 -10 0 1", 3)}
	for i, a := range rising {
		for j, b := range rising {
			wantCmp(t, a, b, num.Of(i).Cmp(num.Of(j)))
		}
	}
}

// Fractions closer and closer to the root of two, in turns above and below it.
func TestCmpOfCloseNumbers(t *testing.T) {
	two := alg("-2 0 1", 1)
	p, q := num.Of(1), num.Of(1)
	for i := range 1200 {
		x, _ := num.Over(p, q)
		if i%40 < 2 {
			wantCmp(t, two, Of(x), 1-i%2*2)
			wantCmp(t, Of(x), two, i%2*2-1)
			wantSign(t, with(x), two, 1-i%2*2)
			wantSign(t, of(-2, 0, 1), Of(x), i%2*2-1)
		}
		p, q = p.Add(q).Add(q), p.Add(q)
	}
	// Of x^16 - 2 (a x - 1)^2 and x^16 - 3 (a x - 1)^2 the roots near 1/a.
	line := poly.Of(whole(-1), num.Whole(longInt("7"+nulls(60))))
	p2 := power(16).Sub(line.Mul(line).Scale(whole(2))).Texts()
	p3 := power(16).Sub(line.Mul(line).Scale(whole(3))).Texts()
	middle, _ := whole(1).Quo(line.At(1))
	rising := []api.Alg{{F: p2, K: 1}, {F: p3, K: 1}, Of(middle), {F: p3, K: 2}, {F: p2, K: 2}}
	for i, a := range rising {
		for j, b := range rising {
			wantCmp(t, a, b, num.Of(i).Cmp(num.Of(j)))
		}
	}
}

func TestCmpIsOfTheDifference(t *testing.T) {
	d := draw{6}
	for range 300 {
		a, b := d.alg(4, 9), d.alg(4, 9)
		b1, _ := Neg(b)
		x, f := Add(a, b1)
		want(t, "fault", f, none)
		s, _ := Sign(of(0, 1), x)
		wantCmp(t, a, b, s)
		wantCmp(t, b, a, -s)
		wantCmp(t, a, a, 0)
	}
}

func TestSign(t *testing.T) {
	for _, c := range []struct {
		p, f   string
		k      int
		wanted int
	}{
		{"", "-2 0 1", 0, 0}, {"5", "-2 0 1", 0, 1}, {"-1/2", "-2 0 1", 0, -1}, {"0 1", "-2 0 1", 0, -1}, {"0 1", "-2 0 1", 1, 1}, {"0 1", "0 1", 0, 0},
		{"-2 0 1", "-2 0 1", 0, 0}, {"-2 0 1", "-2 0 1", 1, 0}, {"1 0 -1/2", "-2 0 1", 1, 0}, {"4 0 -4 0 1", "-2 0 1", 0, 0}, {"0 -2 0 1", "-2 0 1", 1, 0},
		{"-3 0 1", "-2 0 1", 1, -1}, {"-3 2", "-2 0 1", 1, -1}, {"-7 5", "-2 0 1", 1, 1}, {"7 -5", "-2 0 1", 1, -1}, {"-7 5", "-2 0 1", 0, -1},
		{"-1 2", "-1 2", 0, 0}, {"-1 3", "-1 2", 0, 1}, {"1/4 -1 1", "-1 2", 0, 0}, {"-1/3 0 1", "-1 2", 0, -1}, {"1 0 -10 0 1", "1 0 -10 0 1", 2, 0},
		{"0 -9 0 1", "1 0 -10 0 1", 3, 1}, {"0 -99/10 0 1", "1 0 -10 0 1", 3, -1},
	} {
		wantSign(t, polyOf(t, c.p), alg(c.f, c.k), c.wanted)
	}
}

// The sign of a product is the product of the signs; p less its own value is 0.
func TestSignOfDraws(t *testing.T) {
	d := draw{7}
	for range 300 {
		a := d.alg(7, 9)
		p, q := d.poly(d.below(9), 20), d.poly(d.below(9), 20)
		s, _ := Sign(p, a)
		r, _ := Sign(q, a)
		wantSign(t, p.Mul(q), a, s*r)
		wantSign(t, p.Scale(d.nonzero().Mul(d.nonzero())).Mul(readLong(a.F)), a, 0)
		if s != 0 && s == r {
			wantSign(t, p.Add(q), a, s)
		}
		// Between two fractions around a where p has no root it has one sign.
		lo, hi := bracket(t, a, 60)
		if n, f := Count(p, lo.Sub(tenth(60)), hi); f == none && n == 0 {
			wantSign(t, p, a, p.Eval(lo).Sign())
		}
	}
}

func TestSignOfTheGreatestDegree(t *testing.T) {
	d := draw{8}
	for range 5 {
		a := d.alg(16, 1000)
		p := d.poly(200, 1000000)
		s, f := Sign(p, a)
		want(t, "fault", f, none)
		wantSign(t, p.Mul(readLong(a.F)), a, 0)
		wantSign(t, p.Mul(p).Mul(p), a, s)
		wantSign(t, p.Scale(whole(-1)), a, -s)
		cs := make([]num.Frac, 201)
		for i := range cs {
			cs[i], _ = num.Over(d.long(1000), d.long(10))
		}
		s, f = Sign(poly.Of(cs...), a)
		want(t, "fault", f, none)
		want(t, "not 0", s == 0, false)
	}
	long := alg("-"+d.long(1000).Text()+" 0 "+d.long(1000).Text(), 1)
	long.F[0], long.F[2] = "-7"+nulls(998)+"1", "3"+nulls(998)+"1"
	wantSign(t, power(200).Sub(power(199).Scale(whole(2))), long, -1)
	wantSign(t, power(200).Sub(power(199).Scale(frac("3/2"))), long, 1)
}
