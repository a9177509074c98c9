package tower

import (
	"slices"
	"testing"

	"radicand/num"
	"radicand/terms"
	"radicand/whole"
)

func TestPlainly(t *testing.T) {
	const two, four = "1: 1 2, -2 0", "1: 1 2, -2 0; 0: 1 0 2, -1 1 0"
	for _, c := range []struct {
		pt, p string
		is    bool
	}{
		{two, "", true}, {two, "3 0", false}, {two, "1 2, -2 0", true}, {two, "-3 3, 6 1", true}, {two, "1 2, -3 0", false}, {two, "1 1", false},
		{four, "1 0 4, -2 0 0", true}, {four, "1 0 4, -1 2 0", true}, {four, "1 1 3, -2 0 1", true}, {four, "1 1 3, -3 0 1", false}, {four, "1 0 40, -1024 0 0", true},
		// A highest coefficient that is no number: 5 (x y^2 - 3 y + 1), times x + y.
		{two + "; 0: 1 1 2, -3 0 1, 1 0 0", "5 1 2, -15 0 1, 5 0 0", true}, {two + "; 0: 1 1 2, -3 0 1, 1 0 0", "1 2 2, -3 1 1, 1 1 0, 1 1 3, -3 0 2, 1 0 1", true},
		{two + "; 0: 1 1 2, -3 0 1, 1 0 0", "1 2 2, -3 1 1, 1 1 0, 1 1 3, -3 0 2, 2 0 1", false},
		// y - x is 0 there, but nothing tells so but its value.
		{two + "; 1: 1 0 2, -2 0 0", "1 0 1, -1 1 0", false},
		{two + "; 0: 1 0 1, -1/2 0 0; 1: 1 0 0 2, -1 1 0 0", "1 0 0 2, -1 1 0 0", true},
	} {
		pt := made(t, c.pt)
		p := pt.fixed(read(c.p))
		want(t, c.pt+" | "+c.p, pt.plainly(p, 0), c.is)
		if c.is {
			want(t, c.pt+" | "+c.p+": sign", pt.Sign(p), 0)
		}
	}
}

// What would take too many steps is not seen; products are.
func TestPlainlyGivesUp(t *testing.T) {
	d := &draw{3}
	f := read("1 3 3, -2 0 3, 1 1 2, 1 2 1, -7 0 0")
	pt := made(t, "1: 1 2, -2 0; 0: 1 3 3, -2 0 3, 1 1 2, 1 2 1, -7 0 0")
	p := d.poly(2, 400, 40, 1000)
	r := rest{pt, fewSteps}
	want(t, "none", r.none(p, 1), false)
	want(t, "steps", r.steps < 0 && r.steps > -1000000, true)
	r = rest{pt, 0}
	want(t, "no step at all", r.none(read("1 0 3"), 1), false)
	want(t, "product", pt.plainly(p.Mul(f), 0), true)
	want(t, "sign", pt.Sign(p.Mul(f)), 0)
	want(t, "sign", pt.Sign(p.Mul(f).Add(read("1 1 0"))), 1)
}

// Spans have their roots, however much is asked for, and in which order.
func TestSpans(t *testing.T) {
	d := &draw{4}
	for range 40 {
		pt := d.point(1 + d.below(3))
		x := pt[len(pt)-1]
		if x.line == nil {
			continue
		}
		last := x.span(0)
		for range 6 {
			n := d.below(200)
			s := x.span(n)
			want(t, "narrow", s.Narrow() >= n, true)
			want(t, "no wider than it was", s.Narrow() >= last.Narrow(), true)
			// It is not below the lower end, and not above the higher one.
			v := len(pt) - 1
			one := num.Of(1)
			for range s.Bits {
				one = one.Add(one)
			}
			want(t, "low", pt.Sign(less(v, one, s.Low)) >= 0, true)
			want(t, "high", pt.Sign(less(v, one, s.High)) <= 0, true)
			last = s
		}
	}
}

// A root that is the end of a span, or its middle, is told as any other one.
func TestSpansOfIntegers(t *testing.T) {
	for _, c := range []struct {
		pt     string
		wanted int
	}{
		{"1: 1 2, -2 0; 0: 1 1 1, -1 3 0", 2}, {"1: 1 2, -2 0; 0: 1 1 2, -2 1 1", 0}, {"1: 1 2, -2 0; 1: 1 1 2, -2 1 1", 2},
		// (y - x) (y - 1), (y - x) (y - 2), and (y + x) (y + 4).
		{"1: 1 2, -2 0; 0: 1 0 2, -1 1 1, -1 0 1, 1 1 0", 1}, {"1: 1 2, -2 0; 1: 1 0 2, -1 1 1, -2 0 1, 2 1 0", 2}, {"1: 1 2, -2 0; 0: 1 0 2, 1 1 1, 4 0 1, 4 1 0", -4},
	} {
		pt := made(t, c.pt)
		want(t, c.pt, pt.Sign(less(1, num.Of(1), num.Of(c.wanted))), 0)
		want(t, c.pt, pt.Floor(1, 0).Text(), num.Of(c.wanted).Text())
		want(t, c.pt, pt[1].span(300).Narrow() >= 300, true)
	}
}

// Roots of polynomials with numbers as coefficients, of low degrees and high ones, above points too.
func TestExactRoots(t *testing.T) {
	for _, c := range []struct {
		pt, p  string
		wanted string
	}{
		{"1: 1 2, -2 0", "1 0 5, -2 0 3", "-1415 0 1414"}, {"1: 1 2, -2 0", "2 0 17, -1 0 16", "0 500"}, {"1: 1 2, -2 0", "1 0 40, -2 0 20, 1 0 0", "-1000 1000"}, {"1: 1 2, -2 0", "1 0 18, -3 0 16", "-1733 0 1732"},
		{"1: 1 2, -2 0", "1 2 3, -2 0 3, 3 0 2, -7 0 1, 2 0 0", "333 2000"}, {"0: 3 1, -1 0", "1 1 2, -1 0 0", "-1733 1732"}, {"1: 1 2, -2 0", "7 0 0", ""},
	} {
		pt := made(t, c.pt)
		rs, zero := pt.Roots(read(c.p))
		want(t, "0", zero, false)
		var told string
		for _, x := range rs {
			if told != "" {
				told += " "
			}
			told += pt.With(x).Floor(1, 3).Text()
		}
		want(t, c.pt+" | "+c.p, told, c.wanted)
	}
}

// A point with one coordinate more leaves what it was made of as it is.
func TestWith(t *testing.T) {
	pt := made(t, "1: 1 2, -2 0; 1: 1 0 2, -1 1 0")
	rs, _ := pt.Roots(read("1 0 0 2, -1 0 1 0"))
	a, b := pt.With(rs[0]), pt.With(rs[1])
	want(t, "length", len(pt), 2)
	want(t, "signs", a.Sign(read("1 0 0 1")) == -1 && b.Sign(read("1 0 0 1")) == 1, true)
	want(t, "the same ahead", slices.Equal(a[:2], b[:2]), true)
}

// Lines of which some squares are left: the roots are told once, and how many there are.
func TestCounts(t *testing.T) {
	pt := made(t, "1: 1 2, -2 0")
	power := func(text string, n int) terms.Poly {
		p := read("1 0 0")
		for range n {
			p = p.Mul(read(text))
		}
		return p
	}
	for _, c := range []struct {
		p              terms.Poly
		real, distinct int
	}{
		{power("1 0 1, -1 1 0", 5), 1, 1}, {power("1 0 2, -1 1 0", 3), 2, 2}, {power("1 0 2, 1 1 0", 3), 0, 2}, {power("1 0 2, 1 1 0", 2).Mul(power("1 0 1, -1 1 0", 3)).Mul(power("1 0 1", 1)), 2, 4},
		{power("1 0 1, -1 1 0", 2).Mul(power("2 0 1, -1 3 0", 3)).Mul(power("1 0 3, -1 1 0", 2)), 2, 4}, {power("1 0 4, -1 1 0", 4), 2, 4}, {power("1 0 4, 1 1 0", 4).Mul(power("1 0 1", 3)), 1, 5},
		{read("1 0 2, -2 1 1, 2 0 0"), 1, 1},
	} {
		rs, zero := pt.Roots(c.p)
		want(t, "0", zero, false)
		want(t, "real roots", len(rs), c.real)
		if len(rs) > 0 && rs[0].line.known {
			want(t, "all roots", rs[0].line.distinct, c.distinct)
			want(t, "squares", rs[0].line.squares, true)
		}
		for i, x := range rs {
			at := pt.With(x)
			want(t, "0 there", at.Sign(c.p), 0)
			if i > 0 {
				want(t, "rising", pt.With(rs[i-1]).Floor(1, 9).Cmp(at.Floor(1, 9)), -1)
			}
		}
	}
}

// Two roots that stand near to each other are closed in on, whatever bits it takes to tell them apart.
func TestNearRoots(t *testing.T) {
	pt := made(t, "1: 1 2, -2 0")
	square, part := read("1 0 2, -2 1 1, 2 0 0"), num.Whole(num.Of(1))
	half, _ := num.Over(num.Of(1), num.Of(2))
	for k := range 150 {
		// (y - x)^2 is 2^-k.
		rs, _ := pt.Roots(square.Sub(terms.Number(part)))
		want(t, "roots", len(rs), 2)
		low, high := pt.With(rs[0]), pt.With(rs[1])
		for _, at := range []Point{low, high} {
			want(t, "span", at[1].span(2*k).Narrow() >= 2*k, true)
		}
		want(t, "beside x", low.Sign(read("1 0 1, -1 1 0")) == -1 && high.Sign(read("1 0 1, -1 1 0")) == 1, true)
		part = part.Mul(half)
	}
	for k := 0; k < 400; k += 7 {
		// 4^k (x - 1)^2 is 3: numbers alone.
		rs, _ := Point(nil).Roots(read("1 2, -2 1, 1 0").Scale(num.Whole(whole.TwoTo(2 * k))).Sub(read("3 0")))
		want(t, "roots", len(rs), 2)
		for i, x := range rs {
			want(t, "span", x.span(k).Narrow() >= k, true)
			want(t, "beside 1", Point{x}.Sign(read("1 1, -1 0")), 2*i-1)
		}
	}
	for _, times := range []int{1, 3, 1000, 1 << 40} {
		for k := range 60 {
			// A root near to 0, one near to 2^k, and one that is far from both.
			p := read("1 0 1").Sub(terms.Number(part)).Mul(read("1 0 1, -1 1 0").Sub(terms.Number(num.Whole(whole.TwoTo(k))))).Mul(read("1 1 1, 1 0 0").Scale(num.Whole(num.Of(times))))
			rs, _ := pt.Roots(p)
			want(t, "roots", len(rs), 3)
			for _, x := range rs {
				want(t, "span", x.span(k).Narrow() >= k, true)
			}
		}
	}
}
