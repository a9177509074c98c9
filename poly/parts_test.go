package poly

import (
	"strings"
	"testing"

	"radicand/api"
	"radicand/num"
)

// P2.10

// toldParts is the parts as texts: each number, a colon, and the coefficients.
func toldParts(parts []api.Part) string {
	var l []string
	for _, p := range parts {
		l = append(l, num.Of(p.N).Text()+": "+strings.Join(p.F, " "))
	}
	return strings.Join(l, ", ")
}

func TestParts(t *testing.T) {
	for _, c := range [][3]string{{"0 0 -1 1", "1", "1: -1 1, 2: 0 1"}, {"5", "5", ""}, {"-1/2", "-1/2", ""}, {"2 4", "4", "1: 1/2 1"},
		{"-1 0 1", "1", "1: -1 0 1"}, {"3 6 3", "3", "2: 1 1"}, {"0 0 0 -2", "-2", "3: 0 1"}, {"1 0 2 0 1", "1", "2: 1 0 1"},
		{"-2 0 1", "1", "1: -2 0 1"}, {"1/4 -1 1", "1", "2: -1/2 1"}} {
		lead, parts, f := read(t, c[0]).Parts()
		want(t, "fault", f, fault(0, 0))
		want(t, c[0], lead.Text(), c[1])
		want(t, c[0], toldParts(parts), c[2])
	}
	lead, parts, f := Poly{}.Parts()
	want(t, "fault", f, fault(api.ErrZero, 0))
	want(t, "lead", lead.Text(), "0")
	want(t, "parts", len(parts), 0)
}

func TestPartsOfProducts(t *testing.T) {
	d := draw{16}
	for range 150 {
		kind := d.below(kinds)
		p := d.nonzero(kind, 1)
		for n := range 3 {
			q := d.nonzero(kind, 2)
			for range n * (1 + d.below(3)) {
				p = p.Mul(q)
			}
		}
		wantParts(t, p)
	}
}

// wantParts is a failure, if Parts does not tell what the document says.
func wantParts(t *testing.T, p Poly) {
	t.Helper()
	lead, parts, f := p.Parts()
	want(t, "fault", f, fault(0, 0))
	want(t, "lead", lead.Text(), p.Lead().Text())
	product, all, last := Of(lead), Of(one()), 0
	for _, part := range parts {
		q := read(t, strings.Join(part.F, " "))
		want(t, "degree", q.Degree() > 0, true)
		want(t, "monic", q.Lead().Text(), "1")
		want(t, "rising", part.N > last, true)
		last = part.N
		all = all.Mul(q)
		for range part.N {
			product = product.Mul(q)
		}
	}
	wantSame(t, "product", product, p)
	want(t, "squares and common divisors", plainGcd(all, all.Derive()).Degree() < 1, true)
}

func TestPartsOfTheGreatestDegree(t *testing.T) {
	p, q := Of(one()), Of(one())
	for range api.MaxDegree {
		p = p.Mul(read(t, "-1/3 1"))
	}
	_, parts, _ := p.Parts()
	want(t, "power", toldParts(parts), "200: -1/3 1")
	// The parts of numbers that no part has are left away.
	for i := range 10 {
		for range 2*i + 2 {
			q = q.Mul(Of(number(i), one()))
		}
	}
	_, parts, _ = q.Parts()
	want(t, "parts", toldParts(parts), "2: 0 1, 4: 1 1, 6: 2 1, 8: 3 1, 10: 4 1, 12: 5 1, 14: 6 1, 16: 7 1, 18: 8 1, 20: 9 1")
}

// P2.11

func fracs(t *testing.T, text string) []num.Frac {
	t.Helper()
	var xs []num.Frac
	for _, x := range strings.Fields(text) {
		xs = append(xs, frac(t, x))
	}
	return xs
}

func TestThrough(t *testing.T) {
	for _, c := range [][3]string{{"0 1", "1 3", "1 2"}, {"", "", ""}, {"5", "7/2", "7/2"}, {"5", "0", ""}, {"0 1 2", "0 1 4", "0 0 1"}, {"2 0 1", "4 0 1", "0 0 1"},
		{"0 1 2 3", "5 5 5 5", "5"}, {"0 1 2 3", "1 2 3 4", "1 1"}, {"1/2 -1/3", "0 1", "3/5 -6/5"}, {"-1 0 1", "0 0 0", ""}, {"-1 0 1", "1 0 0", "0 -1/2 1/2"}} {
		p, f := Through(fracs(t, c[0]), fracs(t, c[1]))
		want(t, "fault", f, fault(0, 0))
		wantPoly(t, c[0]+" "+c[1], p, c[2])
	}
}

func TestThroughTellsFaults(t *testing.T) {
	for _, c := range []struct {
		xs, ys string
		f      api.Fault
	}{{"1 2", "1", fault(api.ErrSize, 0)}, {"", "1", fault(api.ErrSize, 0)}, {"1", "", fault(api.ErrSize, 0)}, {"1 1", "1", fault(api.ErrSize, 0)},
		{"1 1 1", "1 1", fault(api.ErrSize, 0)}, {"1 1", "1 1", fault(api.ErrTwice, 1)}, {"1 2 3 2 1", "1 2 3 4 5", fault(api.ErrTwice, 3)},
		{"1 2 3 1 2", "1 2 3 1 2", fault(api.ErrTwice, 3)}, {"5 1/2 4 3 1/2 5 5", "0 0 0 0 0 0 0", fault(api.ErrTwice, 4)}, {"0 0 0 0", "1 1 1 1", fault(api.ErrTwice, 1)},
		{"9 8 7 6 5 9", "1 2 3 4 5 6", fault(api.ErrTwice, 5)}} {
		p, f := Through(fracs(t, c.xs), fracs(t, c.ys))
		want(t, c.xs, f, c.f)
		wantPoly(t, "with a fault", p, "")
	}
}

// Of many that stand twice the first one is told.
func TestThroughTellsTheFirstOfMany(t *testing.T) {
	for n := 2; n < 100; n += 7 {
		xs := make([]num.Frac, 3*n)
		for i := range xs {
			xs[i] = number((i * 5) % n)
		}
		// (What is before the end of the first round stands there once, 5 and n having no common divisor.)
		if n%5 != 0 {
			_, f := Through(xs, xs)
			want(t, "fault", f, fault(api.ErrTwice, n))
		}
	}
}

func TestThroughIsThere(t *testing.T) {
	d := draw{17}
	for n := range 40 {
		kind := n % kinds
		if n > 15 {
			kind %= 2
		}
		var xs, ys []num.Frac
		for len(xs) < n {
			x := d.frac(kind).Add(number(len(xs) * 3))
			if firstTwice(append(xs, x)) == len(xs)+1 {
				xs, ys = append(xs, x), append(ys, d.frac(kind))
			}
		}
		p, f := Through(xs, ys)
		want(t, "fault", f, fault(0, 0))
		want(t, "degree", p.Degree() < max(n, 1), true)
		for i, x := range xs {
			want(t, "value", p.Eval(x).Text(), ys[i].Text())
		}
	}
}

// A polynomial of the greatest degree is told by as many values, and one more.
func TestThroughOfTheGreatestDegree(t *testing.T) {
	d := draw{18}
	cs, xs, ys := make([]num.Frac, api.MaxDegree+1), make([]num.Frac, api.MaxDegree+1), make([]num.Frac, api.MaxDegree+1)
	for i := range cs {
		cs[i] = number(1 + d.below(1000))
	}
	p := Of(cs...)
	for i := range xs {
		xs[i] = number(i - 100)
		ys[i] = p.Eval(xs[i])
	}
	q, f := Through(xs, ys)
	want(t, "fault", f, fault(0, 0))
	wantSame(t, "polynomial", q, p)
}
