package real

import (
	"testing"

	"radicand/api"
	"radicand/num"
	"radicand/poly"
)

// P5.1

func wantCount(t *testing.T, p poly.Poly, lo, hi num.Frac, wanted int) {
	t.Helper()
	n, f := Count(p, lo, hi)
	want(t, "fault", f, none)
	want(t, short(lo.Text())+" to "+short(hi.Text()), n, wanted)
}

func TestCount(t *testing.T) {
	for _, c := range []struct {
		p, lo, hi string
		wanted    int
	}{
		{"0 -2 0 1", "0", "2", 1}, {"0 -2 0 1", "-1", "2", 2}, {"0 -2 0 1", "-2", "2", 3}, {"0 -2 0 1", "-1", "0", 1}, {"0 -2 0 1", "0", "0", 0},
		// Not at lo, but at hi.
		{"-2 1", "2", "3", 0}, {"-2 1", "1", "2", 1}, {"-2 1", "2", "2", 0}, {"-1 3", "1/3", "1", 0}, {"-1 3", "0", "1/3", 1},
		{"-1 0 1", "-1", "1", 1}, {"-1 0 1", "-2", "1", 2}, {"-1 0 1", "-1", "99/100", 0}, {"2 -3 1", "1", "2", 1}, {"0 1", "-1", "0", 1}, {"0 1", "0", "1", 0},
		// Each once, however often p is 0 there.
		{"0 0 0 1", "-1", "1", 1}, {"1 -2 1", "0", "1", 1}, {"1 -2 1", "1", "5", 0}, {"4 0 -4 0 1", "0", "2", 1}, {"0 0 1 -2 1", "-1", "1", 2},
		// No roots at all.
		{"5", "-10", "10", 0}, {"-1/2", "0", "0", 0}, {"1 0 1", "-100", "100", 0}, {"1 1 1", "-100", "100", 0},
		// Fractions.
		{"-1/2 0 1", "7/10", "8/10", 1}, {"-2/3 0 -1/5", "-9", "9", 0}, {"-1/4 0 1", "-1/2", "1/2", 1}, {"1/6 -5/6 1", "1/3", "1/2", 1},
		{"-2 0 1", "141421356/100000000", "141421357/100000000", 1}, {"-2 0 1", "141421357/100000000", "2", 0},
	} {
		wantCount(t, polyOf(t, c.p), frac(c.lo), frac(c.hi), c.wanted)
	}
}

func TestCountFaults(t *testing.T) {
	for _, c := range []struct {
		p      poly.Poly
		lo, hi int
		code   int
	}{
		{poly.Poly{}, 0, 1, api.ErrZero}, {poly.Poly{}, 1, 0, api.ErrZero}, {of(0, 0), 1, 0, api.ErrZero},
		{of(0, 1), 1, 0, api.ErrRange}, {of(7), 1, 0, api.ErrRange}, {of(0, 1), 1, 1, 0},
	} {
		n, f := Count(c.p, whole(c.lo), whole(c.hi))
		want(t, "fault", f, fault(c.code, 0))
		want(t, "number", n, 0)
	}
	n, f := Count(of(-1, 0, 1), frac("-1/2"), frac("-2/3"))
	want(t, "fractions", f, fault(api.ErrRange, 0))
	want(t, "number", n, 0)
}

func TestCountIsSturms(t *testing.T) {
	d := draw{1}
	for range 400 {
		p := d.poly(d.below(8), []int{1, 4, 100}[d.below(3)])
		for range d.below(4) {
			q := with(d.frac())
			for range 1 + d.below(3) {
				p = p.Mul(q)
			}
		}
		l := chain(p)
		ends := []num.Frac{d.frac(), d.frac(), d.frac(), whole(-1000), whole(1000)}
		for _, lo := range ends {
			for _, hi := range ends {
				if lo.Cmp(hi) <= 0 {
					wantCount(t, p, lo, hi, atMost(l, hi)-atMost(l, lo))
				}
			}
		}
	}
}

func TestCountOfTheGreatestDegree(t *testing.T) {
	all := whole(1000000)
	wantCount(t, power(200).Sub(of(2)), all.Neg(), all, 2)
	wantCount(t, power(199).Sub(of(2)), all.Neg(), all, 1)
	wantCount(t, power(200).Add(of(2)), all.Neg(), all, 0)
	p, square := of(1), of(1)
	for i := range 100 {
		p = p.Mul(of(-i, 1))
		square = square.Mul(of(2*i+1, 2))
	}
	wantCount(t, p.Mul(square), all.Neg(), all, 200)
	wantCount(t, p.Mul(square), whole(-10), whole(10), 21)
	wantCount(t, p.Mul(p), whole(0), whole(99), 99)
	wantCount(t, p.Mul(p), whole(0), whole(98).Add(tenth(1)), 98)
	// Higher than what is handed in as texts.
	wantCount(t, p.Mul(p).Mul(p), whole(50), all, 49)
	// Chebyshev's has all its roots between -1 and 1.
	a, b := of(1), of(0, 1)
	for range 99 {
		a, b = b, of(0, 2).Mul(b).Sub(a)
	}
	wantCount(t, b, whole(-1), whole(1), 100)
	wantCount(t, b, whole(0), whole(1), 50)
	d := draw{2}
	cs := make([]num.Frac, 201)
	for i := range cs {
		cs[i] = num.Whole(d.long(1000))
	}
	q := poly.Of(cs...)
	n, f := Count(q, all.Neg(), all)
	want(t, "fault", f, none)
	m, _ := Count(q, all.Neg(), whole(1))
	k, _ := Count(q, whole(1), all)
	want(t, "parts", m+k, n)
}

// Far from 0, near to it, and very close together.
func TestCountOfLongNumbers(t *testing.T) {
	far, _ := num.Parse("1" + nulls(999))
	x := num.Whole(far)
	small, _ := num.Over(num.Of(1), far)
	p := with(x, x.Neg(), small, small.Neg(), whole(0))
	for _, c := range []struct {
		lo, hi num.Frac
		wanted int
	}{
		{x.Neg(), x, 4}, {x.Neg().Sub(whole(1)), x, 5}, {x.Neg().Add(whole(1)), x.Sub(whole(1)), 3}, {small.Neg(), small, 2},
		{whole(0), small, 1}, {small, x, 1}, {small, x.Sub(small), 0}, {small.Neg().Sub(small), small.Neg(), 1}, {x, x.Mul(x), 0},
	} {
		wantCount(t, p, c.lo, c.hi, c.wanted)
		wantCount(t, p.Mul(p).Mul(of(1, 0, 3)), c.lo, c.hi, c.wanted)
	}
	// Of the roots of x^16 - 2 (a x - 1)^2 two are at 1/a, but for some 10^-3900 of it.
	line := poly.Of(whole(-1), num.Whole(num.Of(7).Mul(longInt("1"+nulls(488)))))
	q := power(16).Sub(line.Mul(line).Scale(whole(2)))
	middle, _ := whole(1).Quo(line.At(1))
	wantCount(t, q, middle.Sub(tenth(200).Mul(middle)), middle, 1)
	wantCount(t, q, middle, middle.Add(tenth(200).Mul(middle)), 1)
	wantCount(t, q, middle, whole(1), 1)
	wantCount(t, q, whole(-1), whole(1), 2)
}

func nulls(n int) string {
	bs := make([]byte, n)
	for i := range bs {
		bs[i] = '0'
	}
	return string(bs)
}
