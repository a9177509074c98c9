package ball

import "radicand/num"

// A polynomial of balls is the list of its coefficients, the lowest first; there is one at least.

// Value is what the polynomial comes to at x.
func (r Rule) Value(cs []Ball, x Ball) Ball {
	n := len(cs) - 1
	v := cs[n]
	for i := n - 1; i >= 0; i-- {
		v = r.Mul(v, x).Add(cs[i])
	}
	return v
}

// Derive is its derivative; 0, if it has degree 0.
func Derive(cs []Ball) []Ball {
	d := make([]Ball, max(len(cs)-1, 1))
	for i := 1; i < len(cs); i++ {
		d[i-1] = cs[i].Times(num.Of(i))
	}
	return d
}

// FromAll is balls of another rule.
func (r Rule) FromAll(old Rule, cs []Ball) []Ball {
	l := make([]Ball, len(cs))
	for i, c := range cs {
		l[i] = r.From(old, c)
	}
	return l
}
