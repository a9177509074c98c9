package terms

import "radicand/num"

// Fix is what p is where variable v is x.
func (p Poly) Fix(v int, x num.Frac) Poly {
	q, bar := p.weighed(v, x)
	return q.over(bar)
}

// Value is p's value where the variables are xs, one for each.
func (p Poly) Value(xs []num.Frac) num.Frac {
	all := num.Of(1)
	for v, x := range xs {
		q, bar := p.weighed(v, x)
		p, all = q, all.Mul(bar)
	}
	return p.over(all).number()
}

// number is p, in which no variable stands.
func (p Poly) number() num.Frac {
	if len(p.ts) == 0 {
		return num.Frac{}
	}
	return p.ts[0].c
}

// weighed is what p is where variable v is x, times the bar that it tells too: the power of what stands below x's bar
// that makes all powers of x integers. So lowest terms need not be sought at each step.
func (p Poly) weighed(v int, x num.Frac) (Poly, num.Int) {
	above, below := x.Parts()
	d := p.Degree(v)
	up, down := powers(above, d), powers(below, d)
	q := total(0, len(p.ts), func(i int) Poly {
		t := p.ts[i]
		e := t.e[v]
		return Single(t.c.Mul(num.Whole(up[e].Mul(down[d-e]))), t.e.with(v, 0))
	})
	return q, down[d]
}

// Degree is the greatest exponent of variable v; 0, if p is 0.
func (p Poly) Degree(v int) int {
	d := 0
	for _, t := range p.ts {
		d = max(d, t.e[v])
	}
	return d
}

// powers is a to the 0, .. to the d.
func powers(a num.Int, d int) []num.Int {
	l := []num.Int{num.Of(1)}
	for len(l) <= d {
		l = append(l, l[len(l)-1].Mul(a))
	}
	return l
}

// over is p divided by a number that is not 0.
func (p Poly) over(a num.Int) Poly {
	k, _ := num.Over(num.Of(1), a)
	return p.Scale(k)
}

// Derive is p's derivative by variable v.
func (p Poly) Derive(v int) Poly {
	var ts []term
	for _, t := range p.ts {
		if e := t.e[v]; e > 0 {
			ts = append(ts, term{t.c.Mul(num.Whole(num.Of(e))), t.e.with(v, e-1)})
		}
	}
	return Poly{ts}
}
