package roots

import (
	"slices"
	"strings"
	"testing"

	"radicand/num"
	"radicand/poly"
	"radicand/whole"
)

// wantKnown is a failure, if the roots are not these fractions, which rise, no two of them so many bits apart.
func wantKnown(t *testing.T, what string, rs []*Root, xs []num.Frac, bits int) {
	t.Helper()
	want(t, "number of roots: "+what, len(rs), len(xs))
	apart := bit(bits)
	for i, r := range rs {
		for j, x := range xs {
			want(t, "against "+x.Text()+": "+what, r.Against(x), xs[i].Cmp(x))
			want(t, "a bit above", r.Against(x.Add(apart)) < 0, i <= j)
			want(t, "a bit below", r.Against(x.Sub(apart)) > 0, i >= j)
		}
		want(t, "below 0", r.Below(), xs[i].Sign() < 0)
	}
	for i, r := range rs {
		for _, k := range []int{0, 1, 7, 64, 3, bits, 0} {
			at := r.Floor(k)
			want(t, "Floor of "+xs[i].Text(), at.Text(), xs[i].Mul(num.Whole(whole.TwoTo(k))).Floor().Text())
		}
		want(t, "against it, closed in on", r.Against(xs[i]), 0)
	}
}

// distinct is the fractions, each once, rising.
func distinct(xs []num.Frac) []num.Frac {
	slices.SortFunc(xs, num.Frac.Cmp)
	return slices.CompactFunc(xs, func(x, y num.Frac) bool { return x.Cmp(y) == 0 })
}

func TestFractions(t *testing.T) {
	d := draw{1}
	for range 300 {
		var xs []num.Frac
		for range 1 + d.below(9) {
			xs = append(xs, d.frac())
		}
		xs = distinct(xs)
		p := with(xs...).Scale(over(num.Of(1+d.below(5)), num.Of(-1-d.below(7))))
		wantKnown(t, told(p), All(p), xs, 40)
		wantKnown(t, told(p), All(p.Mul(of(1, 0, 1))), xs, 40)
		wantKnown(t, told(p), All(p.Mul(of(1000, -60, 1))), xs, 40)
	}
}

func TestNoRoots(t *testing.T) {
	for _, p := range []poly.Poly{of(1), of(-7), of(1, 0, 1), of(1, 1, 1), of(-1, 0, -1), of(2, 0, 0, 0, 1), of(1000000, -1999, 1)} {
		want(t, told(p), len(All(p)), 0)
	}
}

func TestDraws(t *testing.T) {
	d := draw{2}
	for range 600 {
		p := d.poly(1+d.below(12), []int{1, 3, 10, 1 << 20, 1 << 60}[d.below(5)])
		wantRoots(t, p, All(p))
	}
	for n := 1; n <= 16; n++ {
		for _, c := range []int{-3, 2, 1 << 40, -1 << 40} {
			p := power(n).Add(of(c))
			wantRoots(t, p, All(p))
		}
	}
}

// Roots very close together, and others far away: around fractions that are ends of cells, and others that are not.
func TestCloseRoots(t *testing.T) {
	for _, middle := range []num.Frac{{}, number(1), over(num.Of(-3), num.Of(4)), over(num.Of(1), num.Of(3)), over(num.Of(-1000), num.Of(7)), bit(300), bit(1000).Add(number(5))} {
		for _, n := range []int{2, 3, 6} {
			for _, bits := range []int{10, 100, 1500} {
				for _, far := range []int{0, 1, -1000003} {
					wantCluster(t, middle, n, bits, far)
				}
			}
		}
	}
}

// wantCluster tries n + 1 roots from the middle on, so many bits apart, and maybe one far away.
func wantCluster(t *testing.T, middle num.Frac, n, bits, far int) {
	t.Helper()
	var xs []num.Frac
	for i := range n + 1 {
		xs = append(xs, middle.Add(bit(bits).Mul(number(i-n/2))))
	}
	if far != 0 {
		xs = append(xs, number(far))
	}
	xs = distinct(xs)
	p := with(xs...)
	wantKnown(t, "close roots", All(p), xs, bits+2)
	// Two that are not real, as close.
	square := poly.Of(middle.Neg(), number(1))
	wantKnown(t, "close roots", All(p.Mul(square.Mul(square).Add(poly.Of(bit(2*bits+1))))), xs, bits+2)
}

// The number of cells to roots that are close together grows with the bits of the bits by which they are.
func TestFindingIsQuick(t *testing.T) {
	for _, middle := range []num.Frac{number(0), over(num.Of(1), num.Of(3)), over(num.Of(-5), num.Of(8)), bit(700)} {
		n := 0
		p := with(middle, middle.Add(bit(3000)), middle.Sub(bit(3001)), number(17))
		rs := find(p, func(num.Int, int) bool {
			n++
			return true
		})
		want(t, "number of roots", len(rs), 4)
		want(t, "cells around "+middle.Text(), n < 200, true)
	}
}

// The roots of x^n - 2 (a x - 1)^2 near 1/a are close together (Mignotte).
func TestMignotte(t *testing.T) {
	for _, n := range []int{3, 4, 7, 16} {
		for _, digits := range []int{1, 20, 100} {
			a := poly.Of(number(-1), num.Whole(whole.TwoTo(digits*10/3).Add(num.Of(1))))
			p := power(n).Sub(a.Mul(a).Scale(number(2)))
			rs := All(p)
			want(t, "number of roots", len(rs), 3+(n+1)%2)
			middle := over(num.Of(1), whole.TwoTo(digits*10/3).Add(num.Of(1)))
			i := len(rs) - 3
			want(t, "below 1/a", rs[i].Against(middle), -1)
			want(t, "above 1/a", rs[i+1].Against(middle), 1)
			want(t, "in their order", Cmp(rs[i], rs[i+1]), -1)
			want(t, "the last", Cmp(rs[i+1], rs[i+2]), -1)
		}
	}
	// With 2 (a x - 1)^2 in the place of its opposite the two are not real.
	a := poly.Of(number(-1), num.Whole(whole.TwoTo(1000).Add(num.Of(1))))
	want(t, "not real", len(All(power(16).Add(a.Mul(a).Scale(number(2))))), 0)
}

func TestBetween(t *testing.T) {
	d := draw{3}
	for range 100 {
		xs := distinct([]num.Frac{d.frac(), d.frac(), d.frac(), d.frac(), d.frac()})
		p := with(xs...).Mul(of(1, 0, 0, 0, 1))
		for range 20 {
			lo, hi := d.end(xs), d.end(xs)
			if lo.Cmp(hi) > 0 {
				lo, hi = hi, lo
			}
			var in []num.Frac
			for _, x := range xs {
				if lo.Cmp(x) < 0 && x.Cmp(hi) <= 0 {
					in = append(in, x)
				}
			}
			wantKnown(t, told(p)+" between "+lo.Text()+" and "+hi.Text(), Between(p, lo, hi), in, 40)
		}
	}
	two := Between(of(-2, 0, 1), over(num.Of(7), num.Of(5)), over(num.Of(3), num.Of(2)))
	want(t, "root of two", len(two), 1)
	want(t, "its Floor", two[0].Floor(40).Text(), "1554944255987")
	want(t, "of a number", len(Between(of(3), number(-1), number(1))), 0)
}

// end is one of xs, or near to one, or another fraction.
func (d *draw) end(xs []num.Frac) num.Frac {
	x := xs[d.below(len(xs))]
	switch d.below(4) {
	case 0:
		return d.frac()
	case 1:
		return x.Add(bit(d.below(100)))
	case 2:
		return x.Sub(bit(d.below(100)))
	}
	return x
}

func TestBound(t *testing.T) {
	for _, p := range []poly.Poly{of(0, 1), of(0, 0, 0, 5), of(-1, 1), of(-1000000, 1), of(-1, 1000000), of(-1, 0, 0, 1<<50), of(1, -1<<40, 1), of(-255, -16, 1), of(6, -5, 1)} {
		rs, n := All(p), bound(numbers(p))
		for _, r := range rs {
			if n < 0 {
				want(t, told(p), r.Against(bit(-n)) < 0 && r.Against(bit(-n).Neg()) > 0, true)
			} else {
				want(t, told(p), r.Against(num.Whole(whole.TwoTo(n))) < 0 && r.Against(num.Whole(whole.TwoTo(n).Neg())) > 0, true)
			}
		}
	}
	want(t, "small roots, near 0", bound([]num.Int{num.Of(-1), whole.TwoTo(1000)}) < -900, true)
}

func TestWeights(t *testing.T) {
	for n, wanted := range []string{"1", "1 1", "2 1 2", "3 1 1 3", "12 3 2 3 12", "10 2 1 1 2 10", "60 10 4 3 4 10 60"} {
		var texts []string
		for _, w := range weights(n) {
			texts = append(texts, w.Text())
		}
		want(t, "weights", strings.Join(texts, " "), wanted)
	}
}

// The polynomial of a cell is the one of its bs; those of its halves too.
func TestCells(t *testing.T) {
	d := draw{4}
	for range 200 {
		p := d.poly(1+d.below(7), 20)
		_, p = p.Primitive()
		s := search{f: numbers(p), weights: weights(p.Degree())}
		c := s.cell(num.Of(d.near0(20)), d.near0(6))
		wantCell(t, p, c)
		low, high := c.halves()
		wantCell(t, p, low)
		wantCell(t, p, high)
		want(t, "side by side", high.at.Sub(low.at).Text(), "1")
		want(t, "where c begins", low.at.Text(), c.at.Add(c.at).Text())
		want(t, "no more changes than c", low.changes+high.changes <= c.changes, true)
	}
}

// wantCell holds bs against p: both are the same polynomial, times a number above 0.
func wantCell(t *testing.T, p poly.Poly, c cell) {
	t.Helper()
	n := len(c.bs) - 1
	width := over(parts(num.Of(1), c.k))
	there, _ := p.Compose(poly.Of(num.Whole(c.at).Mul(width), width))
	sum, x, rest := poly.Poly{}, of(0, 1), of(1, -1)
	times := num.Of(1)
	for i, v := range c.bs {
		term := poly.Of(num.Whole(v.Mul(times)))
		for j := range n {
			if j < i {
				term = term.Mul(x)
			} else {
				term = term.Mul(rest)
			}
		}
		sum = sum.Add(term)
		times = whole.Floor(times.Mul(num.Of(n-i)), num.Of(i+1))
	}
	want(t, "degree", sum.Degree(), there.Degree())
	k, _ := sum.Lead().Quo(there.Lead())
	want(t, "a number above 0", k.Sign(), 1)
	want(t, "polynomial of the cell", told(there.Scale(k)), told(sum))
	want(t, "changes", c.changes, changes(c.bs))
}
