package poly

import (
	"math"
	"strconv"
	"strings"
	"testing"

	"radicand/api"
	"radicand/num"
)

// P2.1, P2.2

func TestNewReadsWhatTextsTells(t *testing.T) {
	nines := strings.Repeat("9", api.MaxDigits)
	long := make([]string, api.MaxDegree+1)
	for i := range long {
		long[i] = "-" + nines + "/1" + strings.Repeat("0", api.MaxDigits-1)
	}
	for _, cs := range [][]string{nil, {}, {"1"}, {"-1/2"}, {"0", "1"}, {"0", "0", "-7/3"}, {"5", "0", "0", "1"},
		{nines, "1/" + nines}, long} {
		p, f := New(cs)
		want(t, "fault", f, fault(0, 0))
		want(t, "degree", p.Degree(), len(cs)-1)
		want(t, "texts", strings.Join(p.Texts(), " ") == strings.Join(cs, " "), true)
	}
}

func TestNewTellsFaults(t *testing.T) {
	many := make([]string, api.MaxDegree+2)
	for i := range many {
		many[i] = "1"
	}
	wrong := append([]string{"x"}, many[1:]...)
	ends := append([]string{}, many...)
	ends[len(ends)-1] = "0"
	long := strings.Repeat("9", api.MaxDigits+1)
	for _, c := range []struct {
		cs []string
		f  api.Fault
	}{{many, fault(api.ErrMany, 0)}, {wrong, fault(api.ErrMany, 0)}, {ends, fault(api.ErrMany, 0)},
		{wrong[:api.MaxDegree+1], fault(api.ErrText, 0)}, {[]string{"1", ""}, fault(api.ErrText, 1)},
		{[]string{"1", "2", "12x", "y"}, fault(api.ErrText, 2)}, {[]string{"1", "2/4", "x"}, fault(api.ErrForm, 1)},
		{[]string{"1", "-0"}, fault(api.ErrText, 1)}, {[]string{"1", "1/0"}, fault(api.ErrText, 1)},
		{[]string{long, "x"}, fault(api.ErrLong, 0)}, {[]string{"1", "1/" + long}, fault(api.ErrLong, 1)},
		{[]string{"x", "0"}, fault(api.ErrText, 0)}, {[]string{"3/3", "0"}, fault(api.ErrForm, 0)},
		{[]string{"0"}, fault(api.ErrForm, 0)}, {[]string{"0", "0"}, fault(api.ErrForm, 1)}, {[]string{"1", "2", "0"}, fault(api.ErrForm, 2)}} {
		p, f := New(c.cs)
		want(t, strings.Join(c.cs, " "), f, c.f)
		wantPoly(t, "with a fault", p, "")
	}
}

func TestTextsMayBeMoreAndLonger(t *testing.T) {
	p := read(t, strings.Repeat("0 ", 5000)+"1")
	want(t, "degree", p.Degree(), 5000)
	want(t, "texts", len(p.Texts()), 5001)
	q, f := New([]string{strings.Repeat("9", api.MaxDigits)})
	want(t, "fault", f, fault(0, 0))
	want(t, "digits", len(q.Mul(q).Texts()[0]), 2*api.MaxDigits)
}

// What stands behind // in the face.

func TestOfLeavesZerosAway(t *testing.T) {
	wantPoly(t, "none", Of(), "")
	wantPoly(t, "zeros", Of(num.Frac{}, num.Frac{}), "")
	wantPoly(t, "1, 0, 2, 0, 0", read(t, "1 0 2 0 0"), "1 0 2")
}

func TestListsAreNotKeptNorShared(t *testing.T) {
	cs := []num.Frac{one(), number(2), number(3)}
	p := Of(cs...)
	cs[0], cs[2] = number(7), num.Frac{}
	wantPoly(t, "Of", p, "1 2 3")
	texts := []string{"1", "2"}
	q, _ := New(texts)
	texts[0] = "5"
	wantPoly(t, "New", q, "1 2")
	p.Texts()[0] = "9"
	wantPoly(t, "Texts", p, "1 2 3")
	xs, ys := []num.Frac{number(2), {}, one()}, []num.Frac{number(4), {}, one()}
	r, _ := Through(xs, ys)
	wantPoly(t, "Through", r, "0 0 1")
	want(t, "xs", xs[0].Text()+xs[1].Text()+xs[2].Text(), "201")
	xs[0], ys[0] = one(), one()
	wantPoly(t, "Through", r, "0 0 1")
	_, parts, _ := read(t, "0 0 -1 1").Parts()
	want(t, "room", cap(parts[0].F) >= 2 && len(parts[1].F) == 2, true)
	_ = append(parts[0].F, "x")
	want(t, "part", strings.Join(parts[1].F, " "), "0 1")
}

func TestAtAndLead(t *testing.T) {
	p := read(t, "1/2 0 -3")
	for i, text := range map[int]string{-1: "0", 0: "1/2", 1: "0", 2: "-3", 3: "0", math.MinInt: "0", math.MaxInt: "0"} {
		want(t, strconv.Itoa(i), p.At(i).Text(), text)
	}
	want(t, "lead", p.Lead().Text(), "-3")
	want(t, "lead of 0", Poly{}.Lead().Text(), "0")
	want(t, "degree of 0", Poly{}.Degree(), -1)
	want(t, "degree of 5", read(t, "5").Degree(), 0)
}

func TestSame(t *testing.T) {
	for _, c := range []struct {
		p, q string
		same bool
	}{{"", "", true}, {"", "0 0", true}, {"1 2", "1 2 0", true}, {"1/2 3", "1/2 3", true}, {"1", "", false}, {"1 2", "1", false},
		{"1 2", "1 -2", false}, {"1 2 1", "1 1 1", false}, {"1/2", "1/3", false}} {
		want(t, c.p+" | "+c.q, read(t, c.p).Same(read(t, c.q)), c.same)
	}
}

func TestSumsAndProducts(t *testing.T) {
	for _, c := range [][5]string{
		{"1 2", "3", "4 2", "-2 2", "3 6"},
		{"1 2 3", "1 2 3", "2 4 6", "", "1 4 10 12 9"},
		{"1 2 -3", "1 2 3", "2 4", "0 0 -6", "1 4 4 0 -9"},
		{"1/2 1/3", "1/2 -1/3", "1", "0 2/3", "1/4 0 -1/9"},
		{"", "5 1", "5 1", "-5 -1", ""},
		{"-1 1", "1 1 1 1", "0 2 1 1", "-2 0 -1 -1", "-1 0 0 0 1"}} {
		p, q := read(t, c[0]), read(t, c[1])
		wantPoly(t, "sum", p.Add(q), c[2])
		wantPoly(t, "difference", p.Sub(q), c[3])
		wantPoly(t, "product", p.Mul(q), c[4])
		wantPoly(t, "product", q.Mul(p), c[4])
		wantPoly(t, "what it was", p, c[0])
		wantPoly(t, "what it was", q, c[1])
	}
}

// The same for many polynomials, and for those that are long enough for halves.
func TestProductsOfManyKinds(t *testing.T) {
	d := draw{1}
	for kind := range kinds {
		for _, n := range []int{1, 4, 12} {
			for range 60 {
				p, q := d.poly(kind, n), d.poly(kind, n)
				wantSame(t, "product", p.Mul(q), plainMul(p, q))
				wantSame(t, "p + q - q", p.Add(q).Sub(q), p)
			}
		}
		for range 6 {
			p, q := d.poly(kind, 160), d.poly(kind, 90)
			wantSame(t, "long product", p.Mul(q), plainMul(p, q))
		}
	}
	for _, n := range []int{23, 24, 25, 47, 48, 49, 50, 97} {
		for _, m := range []int{1, 22, 23, 24, 25, 48, 49, 200} {
			cs, ds := make([]num.Frac, n), make([]num.Frac, m)
			for i := range cs {
				cs[i] = number(1 + i*i)
			}
			for i := range ds {
				ds[i] = number(7 - 3*i)
			}
			p, q := Of(cs...), Of(ds...)
			wantSame(t, "by halves", p.Mul(q), plainMul(p, q))
		}
	}
}

func TestSumsOfIntegersOfUnlikeLength(t *testing.T) {
	a, b := ints{num.Of(5)}, ints{num.Of(1), num.Of(2)}
	wantPoly(t, "the shorter first", scaled(one(), a.Add(b)...), "6 2")
	wantPoly(t, "the longer first", scaled(one(), b.Add(a)...), "6 2")
	want(t, "what it was", len(a) == 1 && isOne(b[0]), true)
}

func TestScaleMonicDerive(t *testing.T) {
	for _, c := range [][5]string{
		{"1 2 4", "1/2", "1/2 1 2", "1/4 1/2 1", "2 8"},
		{"-6 0 -3", "-1/3", "2 0 1", "2 0 1", "0 -6"},
		{"3 1", "0", "", "3 1", "1"},
		{"5", "2", "10", "1", ""},
		{"", "7", "", "", ""},
		{"1/2 1/3 1/5 2/7", "210", "105 70 42 60", "7/4 7/6 7/10 1", "1/3 2/5 6/7"}} {
		p := read(t, c[0])
		wantPoly(t, "scaled", p.Scale(frac(t, c[1])), c[2])
		wantPoly(t, "monic", p.Monic(), c[3])
		wantPoly(t, "derivative", p.Derive(), c[4])
	}
	d := draw{2}
	for range 200 {
		p, q := d.poly(d.below(kinds), 8), d.poly(d.below(kinds), 8)
		wantSame(t, "derivative of a product", p.Mul(q).Derive(), p.Derive().Mul(q).Add(p.Mul(q.Derive())))
	}
}

// P1: zero values, and all calls on them.
func TestZeroValue(t *testing.T) {
	var z Poly
	wantPoly(t, "sums", z.Add(z).Sub(z).Mul(z).Scale(one()).Derive().Monic(), "")
	want(t, "eval", z.Eval(frac(t, "2/3")).Text(), "0")
	q, r, f := z.Div(read(t, "1 1"))
	wantPoly(t, "quotient", q, "")
	wantPoly(t, "rest", r, "")
	want(t, "fault", f, fault(0, 0))
	c, f := z.Compose(z)
	wantPoly(t, "composed", c, "")
	want(t, "fault", f, fault(0, 0))
	k, p := z.Primitive()
	want(t, "k", k.Text(), "0")
	wantPoly(t, "primitive", p, "")
	wantPoly(t, "gcd", Gcd(z, z), "")
	want(t, "resultant", Resultant(z, z).Text(), "0")
	want(t, "same", z.Same(Of()), true)
	want(t, "texts", len(z.Texts()), 0)
}

// P2.7

func TestPrimitive(t *testing.T) {
	for _, c := range [][3]string{{"2 -4/3", "-2/3", "-3 2"}, {"", "0", ""}, {"5", "5", "1"}, {"-1/7", "-1/7", "1"}, {"0 6 4", "2", "0 3 2"},
		{"3 2", "1", "3 2"}, {"-3 -2", "-1", "3 2"}, {"1/2 1/3", "1/6", "3 2"}, {"0 0 -10/21", "-10/21", "0 0 1"},
		{"18446744073709551616 36893488147419103232", "18446744073709551616", "1 2"}, {"4/9 8/3 -2/15", "-2/45", "-10 -60 3"}} {
		k, q := read(t, c[0]).Primitive()
		want(t, c[0], k.Text(), c[1])
		wantPoly(t, c[0], q, c[2])
	}
}

func TestPrimitiveOfProducts(t *testing.T) {
	d := draw{3}
	for range 300 {
		p, q := d.poly(d.below(kinds), 6), d.poly(d.below(kinds), 6)
		j, a := p.Primitive()
		k, b := q.Primitive()
		wantSame(t, "k q", a.Scale(j), p)
		l, c := p.Mul(q).Primitive()
		want(t, "k of a product", l.Text(), j.Mul(k).Text())
		if l.Sign() != 0 {
			wantSame(t, "product", c, a.Mul(b))
			wantForm(t, c)
		}
	}
}

// wantForm is a failure, if the coefficients are no integers, or have a common divisor, or the Lead is not above 0.
func wantForm(t *testing.T, p Poly) {
	t.Helper()
	var g num.Int
	for _, c := range p.cs {
		a, b := c.Parts()
		want(t, "below the bar", b.Text(), "1")
		g = num.Gcd(g, a)
	}
	want(t, "common divisor", g.Text(), "1")
	want(t, "lead", p.Lead().Sign(), 1)
}
