package point

import (
	"math/big"
	"strconv"
	"testing"

	"radicand/api"
)

// plainPoint is a point as the plain way has it, and the fault of what is none.
func plainPoint(pt []api.Root) (*level, api.Fault) {
	var l *level
	for i, x := range pt {
		p := l.by(x.P, i)
		if len(p) == 0 {
			return nil, fault(api.ErrZero, i)
		}
		rs := l.roots(p)
		if x.K < 0 || x.K >= len(rs) {
			return nil, fault(api.ErrRange, i)
		}
		l = rs[x.K]
	}
	return l, none
}

// wantPlainCount holds a Count against what the plain way tells.
func wantPlainCount(t *testing.T, pt []api.Root, l *level, p []api.Term) {
	t.Helper()
	by := l.by(p, len(pt))
	if len(by) == 0 {
		_, f := Count(pt, p)
		want(t, toldPoint(pt)+" | "+told(p), f, fault(api.ErrZero, 0))
		return
	}
	wantCount(t, pt, p, len(l.roots(by)))
}

// wantPlainNear holds what Near tells against what the plain way does.
func wantPlainNear(t *testing.T, pt []api.Root, l *level) {
	t.Helper()
	near, f := Near(pt, 3)
	want(t, "fault", f, none)
	for n := len(pt); n > 0; l, n = l.below, n-1 {
		a, _ := new(big.Rat).SetString(near[n-1].Text())
		above := l.add(l.mul(l.root(), l.of(big.NewRat(1000, 1))), l.of(a.Neg(a)))
		want(t, toldPoint(pt)+": Near", l.sign(above) >= 0, true)
		want(t, toldPoint(pt)+": Near", l.sign(l.add(above, l.of(big.NewRat(-1, 1)))) < 0, true)
	}
}

// P9.2 to P9.5, held against the plain way.
func TestAgainstPlainWay(t *testing.T) {
	d := &draw{3}
	good := 0
	for range 80 {
		n := 1 + d.below(3)
		pt := d.point(n, 2)
		l, f := plainPoint(pt)
		want(t, toldPoint(pt)+": Check", Check(pt), f)
		if f != none {
			continue
		}
		good++
		for range 3 {
			p := d.terms(n, 1+d.below(4), 2)
			wantSign(t, pt, p, l.sign(l.at(p, n)))
		}
		wantPlainCount(t, pt, l, d.terms(n+1, 1+d.below(4), 2))
		wantPlainCount(t, pt, l, d.terms(n+1, 1+d.below(4), 2))
		wantPlainNear(t, pt, l)
	}
	want(t, "points", good > 50, true)
}

// All polynomials with the coefficients -1, 0 and 1 and few terms, above some points.
func TestAllSmall(t *testing.T) {
	for _, c := range []struct {
		pt    string
		terms [][]int
	}{
		{"1: 1 2, -2 0", [][]int{{0, 2}, {2, 2}, {1, 1}, {2, 0}, {0, 0}}}, {"0: 1 3, -1 1, -1 0", [][]int{{0, 2}, {1, 1}, {3, 0}, {1, 0}, {0, 0}}},
		{"0: 1 2, -1 1, -1 0", [][]int{{0, 3}, {1, 3}, {0, 2}, {2, 0}, {0, 0}}}, {"1: 1 2, -2 0; 0: 1 0 2, -1 1 0", [][]int{{0, 0, 2}, {1, 0, 1}, {0, 1, 1}, {0, 2, 0}, {0, 4, 0}}},
	} {
		pt := parsePoint(c.pt)
		l, f := plainPoint(pt)
		want(t, "fault", f, none)
		for n := range 243 {
			var p []api.Term
			for _, e := range c.terms {
				p = append(p, api.Term{C: strconv.Itoa(n%3 - 1), E: e})
				n /= 3
			}
			wantPlainCount(t, pt, l, p)
		}
	}
}
