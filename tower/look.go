package tower

import (
	"radicand/api"
	"radicand/ball"
	"radicand/num"
	"radicand/terms"
)

// A look is at the coordinates of a point by one rule: their powers, as far as they are asked for.
type look struct {
	rule   ball.Rule
	pt     Point
	powers [api.MaxVars]map[int]ball.Ball
}

func (pt Point) look(r ball.Rule) *look { return &look{rule: r, pt: pt} }

// value is what p comes to, in which no coordinate stands that is a fraction, and which has integers as coefficients.
func (l *look) value(p terms.Poly) ball.Ball {
	var sum ball.Ball
	var last terms.Power
	// What the powers of the variables up to each one make together: most terms have the first ones as the term ahead.
	var made [api.MaxVars + 1]ball.Ball
	made[0] = l.rule.Whole(num.Of(1))
	begun := false
	for e, c := range p.Each {
		same := begun
		for v := range l.pt {
			same = same && e[v] == last[v]
			if same {
				continue
			}
			made[v+1] = made[v]
			if e[v] > 0 {
				made[v+1] = l.rule.Mul(made[v], l.power(v, e[v]))
			}
		}
		last, begun = e, true
		a, _ := c.Parts()
		sum = sum.Add(made[len(l.pt)].Times(a))
	}
	return sum
}

// values is what each of the polynomials comes to.
func (l *look) values(ps []terms.Poly) []ball.Ball {
	vs := make([]ball.Ball, len(ps))
	for i, p := range ps {
		vs[i] = l.value(p)
	}
	return vs
}

// power is coordinate v to the n, which is above 0.
func (l *look) power(v, n int) ball.Ball {
	if l.powers[v] == nil {
		l.powers[v] = map[int]ball.Ball{1: l.rule.Ball(l.pt[v].span(l.rule.Bits()))}
	}
	if b, is := l.powers[v][n]; is {
		return b
	}
	half := l.power(v, n/2)
	b := l.rule.Mul(half, half)
	if n%2 == 1 {
		b = l.rule.Mul(b, l.power(v, 1))
	}
	l.powers[v][n] = b
	return b
}
