package terms

import "testing"

// Products are divided by what they are made of, and what is none is not.
func TestOver(t *testing.T) {
	d := draw{4}
	for range 600 {
		p, q, r := d.poly(d.below(6), 3), d.poly(1+d.below(5), 3), d.poly(1+d.below(2), 2)
		if q.Len() == 0 {
			continue
		}
		got, is := p.Mul(q).Over(q, 100)
		want(t, "divides", is, true)
		wantSame(t, "quotient", got, p)
		got, is = p.Mul(q).Over(q, p.Len())
		want(t, "as many terms", is, true)
		wantSame(t, "quotient", got, p)
		if p.Len() > 0 {
			_, is = p.Mul(q).Over(q, p.Len()-1)
			want(t, "too many terms", is, false)
		}
		// What is divided is so, whatever is told.
		if got, is := p.Mul(q).Add(r).Over(q, 30); is {
			wantSame(t, "quotient times q", got.Mul(q), p.Mul(q).Add(r))
		}
	}
	x, y := Single(whole(1), Power{1}), Single(whole(1), Power{0, 1})
	for _, c := range []struct {
		p, q Poly
		is   bool
	}{
		{Poly{}, x, true}, {x, x, true}, {x, y, false}, {x, Number(whole(7)), true}, {Number(whole(7)), x, false}, {x.Mul(x).Sub(y.Mul(y)), x.Add(y), true}, {x.Mul(x).Add(y.Mul(y)), x.Add(y), false},
		{x.Mul(x).Sub(Number(whole(1))), x.Sub(Number(whole(1))), true}, {x.Mul(x).Sub(Number(whole(2))), x.Sub(Number(whole(1))), false},
		// It goes on and on: x^5 by x less y^9.
		{Single(whole(1), Power{5}), x.Sub(Single(whole(1), Power{0, 9})), false},
	} {
		_, is := c.p.Over(c.q, 50)
		want(t, "divides", is, c.is)
	}
}
