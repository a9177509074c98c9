package point

import (
	"math/big"
	"slices"
	"strings"
	"testing"

	"radicand/api"
	"radicand/multi"
)

// P9.3, by example.
func TestSign(t *testing.T) {
	const two, four = "1: 1 2, -2 0", "1: 1 2, -2 0; 0: 1 0 2, -1 1 0"
	for _, c := range []struct {
		pt, p  string
		wanted int
	}{
		{four, "1 0 1", -1}, {four, "1 0 4, -2 0 0", 0}, {four, "", 0}, {four, "7/3 0 0", 1}, {four, "-7/3 0 0", -1}, {four, "0 1 1", 0}, {four, "1 1 1, -1 1 1", 0},
		{four, "1 1 0", 1}, {four, "1 2 0, -2 0 0", 0}, {four, "1 0 2, -1 1 0", 0}, {four, "-1 0 2, 1 1 0", 0}, {four, "1 1 1", -1}, {four, "1 1 2, -2 0 0", 0}, {four, "1 40 40, -1 0 0", 1},
		// 2^20 times 2^10, as it is, and with one more or less.
		{four, "1 40 40, -1073741824 0 0", 0}, {four, "-1 40 40, 1073741825 0 0", 1}, {four, "1 40 40, -1073741825 0 0", -1},
		{"0: 1 2, -2 0", "1 1", -1}, {two, "1 1", 1}, {two, "1 3, -2 1", 0}, {two, "1000 1, -1414 0", 1}, {two, "1000 1, -1415 0", -1},
		// A factor alone is what counts: 1 is a root of x^2 - 1, the root of three one of (x^2 - 2) (x^2 - 3).
		{"1: 1 2, -1 0", "1 1, -1 0", 0}, {"1: 1 2, -1 0", "1 1, 1 0", 1}, {"3: 1 4, -5 2, 6 0", "1 2, -3 0", 0}, {"3: 1 4, -5 2, 6 0", "1 2, -2 0", 1}, {"2: 1 4, -5 2, 6 0", "1 2, -2 0", 0},
		{"2: 1 4, -5 2, 6 0", "1 2, -3 0", -1},
		// Two roots of one polynomial, above each other: y is the root of two, or its opposite.
		{two + "; 1: 1 0 2, -2 0 0", "1 0 1, -1 1 0", 0}, {two + "; 0: 1 0 2, -2 0 0", "1 0 1, -1 1 0", -1}, {two + "; 0: 1 0 2, -2 0 0", "1 0 1, 1 1 0", 0}, {two + "; 0: 1 0 2, -2 0 0", "1 1 1, 2 0 0", 0},
		// y^2 - 2 x y + 2 is the square of y - x there.
		{two + "; 0: 1 0 2, -2 1 1, 2 0 0", "1 0 1, -1 1 0", 0}, {two + "; 0: 1 0 2, -2 1 1, 2 0 0", "1 0 2, -2 0 0", 0}, {two + "; 0: 1 0 2, -2 1 1, 2 0 0", "1 0 1", 1},
		// The roots of two and three, and of their sum x^4 - 10 x^2 + 1.
		{two + "; 1: 1 0 2, -3 0 0; 3: 1 0 0 4, -10 0 0 2, 1 0 0 0", "1 0 0 1, -1 1 0 0, -1 0 1 0", 0}, {two + "; 1: 1 0 2, -3 0 0; 2: 1 0 0 4, -10 0 0 2, 1 0 0 0", "1 0 0 1, 1 1 0 0, -1 0 1 0", 0},
		{two + "; 1: 1 0 2, -3 0 0; 3: 1 0 0 4, -10 0 0 2, 1 0 0 0", "1000 0 0 1, -1000 1 0 0, -999 0 1 0", 1}, {two + "; 1: 1 0 2, -3 0 0; 3: 1 0 0 4, -10 0 0 2, 1 0 0 0", "1 0 0 1, -1 1 1 0", 1},
		// Fractions ahead of roots and behind them.
		{"0: 2 1, -1 0; 1: 1 0 2, -1 1 0", "2 0 2, -1 0 0", 0}, {"0: 2 1, -1 0; 1: 1 0 2, -1 1 0", "10 0 1, -7 0 0", 1}, {two + "; 0: 3 0 1, -1 0 0; 1: 3 0 0 2, -1 2 1 0, -1 0 0 0", "9 0 0 2, -5 0 0 0", 0},
		{two + "; 0: 3 0 1, -1 0 0", "1 2 1, -2 0 1", 0}, {two + "; 0: 1 1 1, -1 0 0", "2 0 1, -1 1 0", 0}, {two + "; 0: 1 1 1, -1 0 0", "2 0 1, -1 1 0, 1/1000000 0 0", 1},
		// A highest coefficient that is 0 there leaves y - 3.
		{two + "; 0: 1 2 5, -2 0 5, 1 0 1, -3 0 0", "1 0 1, -3 0 0", 0},
		{"1: 1 40, -2 0", "1 40, -2 0", 0}, {"1: 1 40, -2 0", "1 20, -1 0", 1}, {"1: 1 40, -2 0", "1 20, -3/2 0", -1},
	} {
		wantSign(t, parsePoint(c.pt), parse(c.p), c.wanted)
	}
}

// The signs of numbers that are nearly 0: the powers of what the root of two is off from the best fractions.
func TestSignsNearNought(t *testing.T) {
	pt := parsePoint("1: 1 2, -2 0; 1: 1 0 2, -1 1 0; 1: 1 0 0 2, -1 0 1 0")
	p, q := []api.Term{{C: "1", E: []int{0, 0, 0}}}, []api.Term{{C: "1", E: []int{0, 0, 0}}}
	for i := range 60 {
		// p, q to p + 2 q, p + q: p over q is above the root of two and below it in turn.
		p, q = sum(t, p, sum(t, q, q)), sum(t, p, q)
		for v, e := range []int{1, 2, 4} {
			x := []api.Term{{C: "1", E: []int{0, 0, 0}}}
			x[0].E[v] = e
			off := sum(t, product(t, q, x), product(t, []api.Term{{C: "-1", E: []int{0, 0, 0}}}, p))
			sign := 1 - 2*(i%2)
			wantSign(t, pt, off, -sign)
			third := product(t, off, product(t, off, off))
			wantSign(t, pt, third, -sign)
			wantSign(t, pt, product(t, third, third), 1)
			if e < 4 {
				wantSign(t, pt, product(t, product(t, third, third), product(t, third, third)), 1)
			}
			if i%10 == 0 && e == 1 {
				long := product(t, product(t, third, third), third)
				wantSign(t, pt, product(t, long, long), 1)
				wantSign(t, pt, product(t, product(t, long, long), long), -sign)
			}
		}
	}
}

// unit is a number as near to 0 as it can be next to how it is written: the power k of the root number n of two less 1,
// as a sum of few terms, each number of which has the exponents that place tells. (Its product with all that cannot be
// told apart from it is 1 or -1.)
func unit(n, k int, place func(i int) []int) []api.Term {
	cs := make([]*big.Int, n)
	for i := range cs {
		cs[i] = new(big.Int)
	}
	cs[0].SetInt64(1)
	for range k {
		// Times the root, of which the power n is 2, less itself.
		next := make([]*big.Int, n)
		for i := range next {
			next[i] = new(big.Int).Sub(cs[(i+n-1)%n], cs[i])
			if i == 0 {
				next[i].Add(next[i], cs[n-1])
			}
		}
		cs = next
	}
	var p []api.Term
	for i, c := range cs {
		p = append(p, api.Term{C: c.String(), E: place(i)})
	}
	return p
}

func opposite(p []api.Term) []api.Term {
	l := slices.Clone(p)
	for i, t := range l {
		l[i].C = strings.TrimPrefix("-"+t.C, "--")
		if t.C == "0" {
			l[i].C = "0"
		}
	}
	return l
}

func TestSignsOfUnits(t *testing.T) {
	cube, sixth := parsePoint("0: 1 3, -2 0"), parsePoint("0: 1 3, -2 0; 1: 1 0 2, -1 1 0")
	for k := 1; k <= 400; k += 7 {
		p, q := unit(3, k, func(i int) []int { return []int{i} }), unit(6, k, func(i int) []int { return []int{i / 2, i % 2} })
		wantSign(t, cube, p, 1)
		wantSign(t, cube, opposite(p), -1)
		wantSign(t, sixth, q, 1)
		wantSign(t, sixth, opposite(q), -1)
	}
}

// P9.4: z^2 less, or with, what is so near to 0; and (z - x)^2.
func TestCountsOfUnits(t *testing.T) {
	cube := parsePoint("0: 1 3, -2 0")
	for k := 1; k <= 200; k += 13 {
		p := unit(3, k, func(i int) []int { return []int{i, 0} })
		for _, square := range []string{"1 0 2", "1 0 2, -2 1 1, 1 2 0"} {
			wantCount(t, cube, append(parse(square), p...), 0)
			wantCount(t, cube, append(parse(square), opposite(p)...), 2)
			wantCount(t, cube, product(t, append(parse(square), p...), append(parse(square), opposite(p)...)), 2)
			wantCount(t, cube, product(t, append(parse(square), opposite(p)...), append(parse(square), opposite(p)...)), 2)
		}
	}
}

// joined is what multi makes of both.
func joined(t *testing.T, a, b []api.Term, way func(a, b []api.Term, n, order int) ([]api.Term, api.Fault)) []api.Term {
	t.Helper()
	both := append(slices.Clone(a), b...)
	if len(both) == 0 {
		return nil
	}
	l, f := way(a, b, len(both[0].E), api.Lex)
	want(t, "fault", f, none)
	return l
}

func sum(t *testing.T, a, b []api.Term) []api.Term {
	t.Helper()
	return joined(t, a, b, multi.Add)
}

func product(t *testing.T, a, b []api.Term) []api.Term {
	t.Helper()
	return joined(t, a, b, multi.Mul)
}

// point is n coordinates, most of them roots of polynomials of degree 2 or 3; what is none is told by Check.
func (d *draw) point(n, most int) []api.Root {
	var pt []api.Root
	for i := range n {
		x := api.Root{P: d.terms(i+1, 1+d.below(4), most), K: d.below(5) / 2}
		if d.below(3) > 0 {
			e := make([]int, i+1)
			e[i] = 2 + d.below(8)/7
			x.P = append(x.P, api.Term{C: d.frac(), E: e})
		}
		pt = append(pt, x)
		for tries := 0; tries < 20 && Check(pt).Code == api.ErrRange; tries++ {
			pt[i].P, pt[i].K = d.terms(i+1, 2+d.below(3), most), d.below(3)/2
		}
	}
	return pt
}

// What follows: signs of products and sums; the coordinates make 0 of their polynomials, and of all that is made of them.
func TestSignsAgree(t *testing.T) {
	d := &draw{5}
	good := 0
	for range 600 {
		n := 1 + d.below(4)
		pt := d.point(n, 2+d.below(2))
		if Check(pt) != none {
			continue
		}
		good++
		var zero []api.Term
		for i, x := range pt {
			wantSign(t, pt, wider(x.P, n), 0)
			p := product(t, wider(x.P, n), d.terms(n, 2, 2))
			wantSign(t, pt, p, 0)
			if i < 2 {
				zero = sum(t, zero, p)
			}
		}
		wantSign(t, pt, zero, 0)
		p, q := d.terms(n, 3, 2), d.terms(n, 3, 2)
		a, _ := Sign(pt, p)
		b, _ := Sign(pt, q)
		wantSign(t, pt, product(t, p, q), a*b)
		wantSign(t, pt, sum(t, product(t, p, q), zero), a*b)
		wantSign(t, pt, sum(t, product(t, p, p), product(t, q, q)), max(a*a, b*b))
		if a*b >= 0 {
			wantSign(t, pt, sum(t, p, q), max(min(a+b, 1), -1))
		}
	}
	want(t, "points", good > 300, true)
}

// Long coefficients, high exponents, and many terms.
func TestLongSigns(t *testing.T) {
	d := &draw{6}
	long := func() string {
		s := []string{"", "-"}[d.below(2)] + string(rune('1'+d.below(9)))
		for range 999 {
			s += string(rune('0' + d.below(10)))
		}
		return s
	}
	for _, c := range [][3]int{{2, 3, 16}, {3, 2, 27}, {1, 40, 41}, {2, 40, 400}, {4, 2, 81}} {
		var pt []api.Root
		for i := range c[0] {
			pt = append(pt, api.Root{})
			for tries := 0; tries == 0 || Check(pt) != none; tries++ {
				pt[i] = api.Root{P: d.terms(i+1, c[2], c[1]), K: d.below(2)}
				for j := range pt[i].P {
					pt[i].P[j].C = long()
				}
			}
		}
		n := len(pt)
		for _, x := range pt {
			wantSign(t, pt, wider(x.P, n), 0)
		}
		p := wider(pt[n-1].P, n)
		p = append(p[:min(len(p), 399)], api.Term{C: long(), E: make([]int, n)})
		s, f := Sign(pt, p)
		want(t, "fault", f, none)
		if len(pt[n-1].P) < 400 {
			wanted := 1
			if strings.HasPrefix(p[len(p)-1].C, "-") {
				wanted = -1
			}
			want(t, "sign", s, wanted)
		}
	}
}
