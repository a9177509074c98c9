package factor

import (
	"testing"

	"radicand/api"
	"radicand/num"
	"radicand/poly"
)

// P4.2

func toldRoots(xs []num.Frac) string {
	text := ""
	for _, x := range xs {
		text += x.Text() + " "
	}
	return text
}

func TestRoots(t *testing.T) {
	for _, c := range [][2]string{
		{"-2 7 -3", "1/3 2 "}, {"5", ""}, {"-1/2", ""}, {"0 3", "0 "}, {"0 0 0 3", "0 "}, {"1 0 1", ""}, {"-2 0 1", ""},
		{"-1 0 1", "-1 1 "}, {"1 2 1", "-1 "}, {"1/4 -1 1", "1/2 "}, {"2/3 -1/5", "10/3 "}, {"0 -1 0 1", "-1 0 1 "},
		// Rising by what they are: not by how they stand in order, or are written.
		{"-90 -1 1", "-9 10 "}, {"1 -5 6", "1/3 1/2 "}, {"-1 -1 6", "-1/3 1/2 "}, {"20 -9 1", "4 5 "}, {"3 -7 2", "1/2 3 "},
		{"8 -14 7 -1", "1 2 4 "}, {"-6 11 -6 1", "1 2 3 "}, {"2 1 -2 -1", "-2 -1 1 "}, {"-2 1 -2 1", "2 "},
	} {
		roots, f := Roots(read(t, c[0]))
		want(t, "fault", f, none)
		want(t, c[0], toldRoots(roots), c[1])
	}
}

func TestRootsOfProducts(t *testing.T) {
	d := draw{6}
	for range 300 {
		digits := d.below(30)
		p := d.irreducible(2+d.below(5), digits).Scale(d.frac(digits))
		var wanted []num.Frac
		for range 1 + d.below(5) {
			x := d.frac(digits)
			p = p.Mul(poly.Of(x.Neg(), number(1)))
			i := 0
			for i < len(wanted) && wanted[i].Cmp(x) < 0 {
				i++
			}
			if i < len(wanted) && wanted[i].Cmp(x) == 0 {
				continue
			}
			wanted = append(wanted[:i:i], append([]num.Frac{x}, wanted[i:]...)...)
		}
		roots, f := Roots(p)
		want(t, "fault", f, none)
		want(t, told(p), toldRoots(roots), toldRoots(wanted))
	}
}

func TestRootsOfTheGreatestDegree(t *testing.T) {
	p, wanted := of(1), ""
	for i := range api.MaxFactor {
		x, _ := num.Over(num.Of(i-8), num.Of(5))
		wanted += x.Text() + " "
		p = p.Mul(poly.Of(x.Neg(), number(1)))
	}
	roots, _ := Roots(p)
	want(t, told(p), toldRoots(roots), wanted)
}
