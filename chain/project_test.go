package chain

import (
	"math/big"
	"slices"
	"testing"

	"radicand/api"
	"radicand/real"
)

// P8.2

// wantAll is a failure, if Project does not tell these, or changes what it is given, or its lists share memory.
func wantAll(t *testing.T, ps [][]api.Term, n, v int, wanted string) {
	t.Helper()
	what := toldAll(ps)
	was := toldAll(copied(ps))
	ls, f := Project(ps, n, v)
	want(t, what+": fault", f, none)
	want(t, what, toldAll(ls), wanted)
	wantAlone(t, what, ls...)
	want(t, what+": read alone", toldAll(ps), was)
}

func TestProject(t *testing.T) {
	for _, c := range []struct {
		ps   string
		n, v int
		told string
	}{
		{circle, 2, 1, "1 2 0, -1 0 0"}, {circle, 2, 0, "1 0 2, -1 0 0"}, {"1 1 1, -1 0 0", 2, 1, "1 1 0"},
		// Of none, of numbers and of nought: nothing.
		{"", 2, 1, ""}, {";", 2, 1, ""}, {"5 0 0; -1/2 0 0; 1 1 0, -1 1 0", 2, 1, ""}, {"1 2", 1, 0, ""}, {"1 2, -1 0; 1 1, -1/3 0", 1, 0, ""},
		// In which v does not stand: they themselves, primitive, once, in their order.
		{"-2/3 1 0, 4/5 0 0", 2, 1, "5 1 0, -6 0 0"}, {"1 1 0; -3 1 0; 1/7 1 0; 0 0 3, 2 1 0", 2, 1, "1 1 0"}, {"4 1 0, 6 0 0; 1 2 0; 1 2 0, 1 1 0; 2 2 0, 1 0 0; 1 2 0, 2 1 0", 2, 1, "2 2 0, 1 0 0; 1 2 0; 1 2 0, 2 1 0; 1 2 0, 1 1 0; 2 1 0, 3 0 0"},
		{"1 1 0; 1 1 0, 1 0 0; 1 1 0, -1 0 0", 2, 1, "1 1 0; 1 1 0, 1 0 0; 1 1 0, -1 0 0"},
		// A line and a circle.
		{circle + "; 1 0 1, -1 1 0", 2, 1, "2 2 0, -1 0 0; 1 2 0, -1 0 0"},
		// a y^2 + b y + c: 4 a^2 c - a b^2 and a; of the rest b y + c: b; and c.
		{"1 1 0 0 2, 1 0 1 0 1, 1 0 0 1 0", 4, 3, "4 2 0 1 0, -1 1 2 0 0; 1 1 0 0 0; 1 0 1 0 0; 1 0 0 1 0"},
		// A highest coefficient that is a number: no rest, and not what is left where y is 0.
		{"3 0 0 0 2, 1 0 1 0 1, 1 0 0 1 0", 4, 3, "1 0 2 0 0, -12 0 0 1 0"},
		// The rest goes on to what has a number as its highest coefficient.
		{"1 1 0 3, 2 0 0 1, 1 0 1 0", 3, 2, "27 3 2 0, 32 2 0 0; 1 2 0 0; 1 1 0 0; 1 0 1 0"},
		// Lines: what they have in common, and of each the coefficients.
		{"1 1 0 0 1, -1 0 0 0 0; 1 0 1 0 1, -1 0 0 1 0", 4, 3, "1 1 0 1 0, -1 0 1 0 0; 1 1 0 0 0; 1 0 1 0 0; 1 0 0 1 0"},
	} {
		wantAll(t, parseAll(c.ps), c.n, c.v, c.told)
	}
}

func drawn(d *draw, most int) (ps [][]api.Term, n, v int) {
	n = 1 + d.below(4)
	v = d.below(n)
	for range d.below(4) {
		ps = append(ps, d.terms(n, d.below(6), most, v, 1+d.below(3), d.below(3) == 0))
	}
	return ps, n, v
}

// Of drawn polynomials: the set that the chapter words.
func TestProjectOfDraws(t *testing.T) {
	d := draw{21}
	for range 1000 {
		ps, n, v := drawn(&d, 2)
		var plains []plain
		for _, p := range ps {
			plains = append(plains, plainOf(p))
		}
		wantAll(t, ps, n, v, formAll(shadow(plains, v), n))
	}
}

// What comes ahead in the arguments, how often it is there, and what it is multiplied by is all the same.
func TestProjectOfASet(t *testing.T) {
	d := draw{22}
	for range 200 {
		ps, n, v := drawn(&d, 2)
		ls, f := Project(ps, n, v)
		want(t, "fault", f, none)
		turned := copied(ps)
		slices.Reverse(turned)
		for _, l := range turned {
			slices.Reverse(l)
			for i := range l {
				l[i].C = new(big.Rat).Mul(rat(l[i].C), big.NewRat(-5, 7)).RatString()
			}
		}
		turned = append(turned, parse("1"+told([]api.Term{{E: make([]int, n)}})))
		turned = append(turned, copied(ps)...)
		again, f := Project(turned, n, v)
		want(t, "fault", f, none)
		want(t, "again", toldAll(again), toldAll(ls))
		// What is told is a set: that of itself, if v does not stand in it.
		same, f := Project(ls[:min(len(ls), 8)], n, v)
		want(t, "fault", f, none)
		want(t, "of itself", toldAll(same), toldAll(ls[:min(len(ls), 8)]))
	}
}

// Between points where no polynomial of the projection changes its sign, there are as many roots, in the same order.
func TestRootsAboveStay(t *testing.T) {
	d := draw{23}
	steps := 0
	for range 60 {
		var ps [][]api.Term
		for range 1 + d.below(3) {
			ps = append(ps, d.terms(2, 4, 2, 1, 3, false))
		}
		told, f := Project(ps, 2, 1)
		want(t, "fault", f, none)
		last := ""
		for x := int64(-24); x <= 24; x++ {
			from, to := big.NewRat(x-1, 8), big.NewRat(x, 8)
			above := rootsAbove(ps, to)
			if x > -24 && !changes(told, from, to) {
				want(t, toldAll(ps)+" at "+to.RatString(), above, last)
				steps++
			}
			last = above
		}
	}
	want(t, "steps", steps > 1000, true)
}

// changes tells whether one of some polynomials of variable 0 is 0 from a point to another one, with both.
func changes(ls [][]api.Term, from, to *big.Rat) bool {
	for _, l := range ls {
		p := fixed(l, 0, []*big.Rat{nil, big.NewRat(0, 1)})
		n, f := real.Count(p, longFrac(from), longFrac(to))
		if f != none || n > 0 || p.Eval(longFrac(from)).Sign() == 0 {
			return true
		}
	}
	return false
}

// rootsAbove is how the roots above x stand: each polynomial's number of them, and of each two how they compare.
func rootsAbove(ps [][]api.Term, x *big.Rat) string {
	var all []api.Alg
	var s []byte
	for _, l := range ps {
		p := fixed(l, 1, []*big.Rat{x, nil})
		if p.Degree() < 0 {
			s = append(s, "nought "...)
			continue
		}
		roots, _ := real.Roots(p)
		all = append(all, roots...)
		s = append(s, byte('0'+len(roots)), ' ')
	}
	for i, a := range all {
		for _, b := range all[:i] {
			c, _ := real.Cmp(a, b)
			s = append(s, byte('='+c))
		}
	}
	return string(s)
}

// More terms, higher degrees and longer coefficients: what is told divides what the resultants are.
func TestProjectOfGreatOnes(t *testing.T) {
	d := draw{24}
	a, b := d.terms(2, 30, 6, 1, 8, true), d.terms(2, 30, 6, 1, 8, true)
	ls, f := Project([][]api.Term{a, b}, 2, 1)
	want(t, "fault", f, none)
	r, f := Resultant(a, b, 2, 1)
	want(t, "fault", f, none)
	want(t, "the resultant", slices.ContainsFunc(ls, func(l []api.Term) bool { return told(l) == plainOf(r).primitive().form(2) }), true)
	seen := map[string]int{}
	for i, l := range ls {
		p := plainOf(l)
		want(t, "primitive", p.primitive().form(2), told(l))
		want(t, "a number", p.isNumber(), false)
		want(t, "v", p.degree(1), 0)
		want(t, "in order", i == 0 || ahead(plainOf(ls[i-1]), p), true)
		seen[told(l)]++
		want(t, "once", seen[told(l)], 1)
	}
	want(t, "many", len(ls) > 200, true)
}

// Polynomials of one variable leave none, whatever they are.
func TestProjectOfOneVariable(t *testing.T) {
	d := draw{25}
	for range 100 {
		ls, f := Project([][]api.Term{d.terms(1, 9, 8, 0, 8, true), d.terms(1, 9, 8, 0, 8, false)}, 1, 0)
		want(t, "fault", f, none)
		want(t, "told", len(ls), 0)
	}
}
