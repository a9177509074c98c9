package point

import (
	"testing"

	"radicand/api"
)

// P9.4, by example.
func TestCount(t *testing.T) {
	const two, four = "1: 1 2, -2 0", "1: 1 2, -2 0; 0: 1 0 2, -1 1 0"
	for _, c := range []struct {
		pt, p  string
		wanted int
	}{
		{four, "1 0 0 2, -1 0 1 0", 0}, {four, "1 0 0 2, 1 0 1 0", 2}, {four, "5 0 0 0", 0}, {four, "1 1 1 0", 0}, {four, "1 1 1 1", 1}, {four, "1 1 1 40", 1}, {four, "1 0 0 1, 1 0 1 0", 1},
		{two, "1 0 2, -1 1 0", 2}, {"0: 1 2, -2 0", "1 0 2, -1 1 0", 0}, {two, "1 0 3, -1 1 0", 1}, {two, "1 0 40, -1 1 0", 2},
		// y^2 - 2 x y + a.
		{two, "1 0 2, -2 1 1, 2 0 0", 1}, {two, "1 0 2, -2 1 1, 3 0 0", 0}, {two, "1 0 2, -2 1 1, 1 0 0", 2}, {two, "1 0 2, -2 1 1, 1 2 0", 1}, {two, "1 0 2, -2 1 1, 1 4 0, -2 0 0", 1},
		// (y^2 - x)^2, its product with y - x, and with y^2 + x.
		{two, "1 0 4, -2 1 2, 1 2 0", 2}, {two, "1 0 5, -2 1 3, 1 2 1, -1 1 4, 2 2 2, -1 3 0", 3}, {two, "1 0 6, -2 1 4, 1 2 2, 1 1 4, -2 2 2, 1 3 0", 2},
		// (y - x) (y - x^3 + x), which are one: x^3 - x is x; and (y - x)^3 as it is there.
		{two, "1 0 2, -1 3 1, 1 1 1, -1 1 1, 1 4 0, -1 2 0", 1}, {two, "1 0 3, -3 1 2, 6 0 1, -2 1 0", 1},
		// Highest coefficients that are 0 there.
		{two, "1 2 9, -2 0 9, 1 0 2, -1 1 0", 2}, {two, "1 2 9, -2 0 9, 1 4 8, -2 2 8, 1 0 3, -1 0 1", 3}, {two, "1 2 9, -2 0 9, 1 1 0", 0},
		{"0: 1 1, -3 0", "1 0 2, -1 1 0, 1 0 0", 2}, {"0: 1 1, -3 0", "1 0 2, -6 0 1, 1 2 0", 1}, {"0: 1 1", "1 0 2, 1 1 1, 1 1 0", 1}, {"0: 1 1, 1 0", "1 0 2, 1 1 0", 2},
		// Many roots: (y - 1) .. (y - 4), less x; y^17 - x y; and y^40 less other powers.
		{two, "1 0 4, -10 0 3, 35 0 2, -50 0 1, 24 0 0, -1 1 0", 2}, {two, "1 0 4, -10 0 3, 35 0 2, -50 0 1, 24 0 0, -1/4 1 0", 4}, {two, "1 0 17, -1 1 1", 3}, {two, "1 0 40, -1 1 39, 1 0 2, -1 1 1", 2}, {two, "1 0 40, -1 0 0", 2},
	} {
		wantCount(t, parsePoint(c.pt), parse(c.p), c.wanted)
	}
}

// Roots that are nearly one: z^2 - 2 x z + x^2 is a square, and with what is nearly 0 more or less it is none.
func TestCountNearSquares(t *testing.T) {
	pt := parsePoint("1: 1 2, -2 0; 1: 1 0 2, -1 1 0")
	term := func(c string, e ...int) []api.Term { return []api.Term{{C: c, E: e}} }
	square := sum(t, term("1", 0, 0, 2), sum(t, term("-2", 0, 1, 1), term("1", 0, 2, 0)))
	p, q := term("1", 0, 0, 0), term("1", 0, 0, 0)
	for i := range 40 {
		p, q = sum(t, p, sum(t, q, q)), sum(t, p, q)
		off := sum(t, product(t, q, term("1", 1, 0, 0)), product(t, p, term("-1", 0, 0, 0)))
		third := product(t, product(t, off, off), off)
		wantCount(t, pt, sum(t, square, off), 2-wantedLess(i))
		wantCount(t, pt, sum(t, square, third), 2-wantedLess(i))
		wantCount(t, pt, sum(t, square, product(t, third, third)), 0)
		wantCount(t, pt, sum(t, square, product(t, term("-1", 0, 0, 0), product(t, third, third))), 2)
		// It is 0 there, though it is not written so.
		wantCount(t, pt, sum(t, square, product(t, off, sum(t, term("1", 0, 2, 0), term("-1", 1, 0, 0)))), 1)
	}
}

// wantedLess is 2, if number i of the fractions is above the root of two, else 0.
func wantedLess(i int) int { return 2 * (i % 2) }

// Polynomials whose roots are known: products of z less what some polynomials come to, some of them one number.
func TestCountOfProducts(t *testing.T) {
	d := &draw{7}
	good := 0
	for range 400 {
		n := 1 + d.below(3)
		pt := d.point(n, 2)
		if Check(pt) != none {
			continue
		}
		good++
		z := []api.Term{{C: "1", E: make([]int, n+1)}}
		z[0].E[n] = 1
		minus := []api.Term{{C: "-1", E: make([]int, n)}}
		all, many := []api.Term{{C: "1", E: make([]int, n+1)}}, 0
		var told [][]api.Term
		for range d.below(4) {
			q := d.terms(n, 1+d.below(2), 1)
			if len(told) > 0 && d.below(3) == 0 {
				q = sum(t, told[0], product(t, wider(pt[d.below(n)].P, n), d.terms(n, 1, 1)))
			}
			known := false
			for _, r := range told {
				s, _ := Sign(pt, sum(t, q, product(t, minus, r)))
				known = known || s == 0
			}
			told = append(told, q)
			if !known {
				many++
			}
			all = product(t, all, sum(t, z, wider(product(t, minus, q), n+1)))
		}
		if d.below(2) == 0 {
			// z^2 + q^2 + 1 has no root.
			q := wider(d.terms(n, 1, 1), n+1)
			all = product(t, all, sum(t, product(t, z, z), sum(t, product(t, q, q), product(t, wider(minus, n+1), wider(minus, n+1)))))
		}
		if Check([]api.Root{{P: all}}).Code == api.ErrMany {
			continue
		}
		wantCount(t, pt, all, many)
	}
	want(t, "points", good > 200, true)
}
