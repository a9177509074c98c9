package chain

import (
	"math/big"
	"slices"
	"strconv"
	"strings"
	"testing"

	"radicand/api"
	"radicand/num"
	"radicand/poly"
)

// P8.1, and Resultant

const circle = "1 2 0, 1 0 2, -1 0 0"

func TestPsc(t *testing.T) {
	for _, c := range []struct {
		a, b    string
		n, v, j int
		m       string
	}{
		// Resultants, and all other numbers of the first: of j 2 there are no rows.
		{circle, "1 0 1, -1 1 0", 2, 1, 0, "2 2 0, -1 0 0"}, {circle, "1 0 1, -1 1 0", 2, 1, 1, "1 0 0"}, {circle, circle, 2, 1, 2, "1 0 0"},
		{circle, circle, 2, 1, 1, ""}, {circle, circle, 2, 1, 0, ""}, {circle, circle, 2, 0, 2, "1 0 0"},
		{"1 1 0 0 2, 1 0 1 0 1, 1 0 0 1 0", "2 1 0 0 1, 1 0 1 0 0", 4, 3, 0, "4 2 0 1 0, -1 1 2 0 0"},
		{"2 1 0 0 1, 1 0 1 0 0", "1 1 0 0 2, 1 0 1 0 1, 1 0 0 1 0", 4, 3, 0, "4 2 0 1 0, -1 1 2 0 0"},
		{"1 1 0, -1 0 1", "1 1 0, -2 0 1", 2, 0, 0, "-1 0 1"}, {"1 1 0, -2 0 1", "1 1 0, -1 0 1", 2, 0, 0, "1 0 1"}, {"1 1 0, -2 0 1", "1 1 0, -1 0 1", 2, 1, 0, "-1 1 0"},
		// One that v does not stand in; both; numbers.
		{"1 1 0", "1 0 3, 1 0 0", 2, 1, 0, "1 3 0"}, {"1 0 3, 1 0 0", "-2 1 0, 1 0 0", 2, 1, 0, "-8 3 0, 12 2 0, -6 1 0, 1 0 0"}, {"1 1 0", "5 2 0", 2, 1, 0, "1 0 0"},
		{"3 0 0", "1/2 0 2, 1 0 0", 2, 1, 0, "9 0 0"}, {"3 0", "7 0", 1, 0, 0, "1 0"}, {"1/3 0", "1 16", 1, 0, 0, "1/43046721 0"},
		// Number q (or p) is a power of the coefficient of the lower one.
		{"1 0 5, 1 1 0", "1 1 2, 1 0 1", 2, 1, 2, "1 3 0"}, {"1 1 2, 1 0 1", "1 0 5, 1 1 0", 2, 1, 2, "1 3 0"}, {"-1 1 2, 1 0 1", "1 0 5, 1 1 0", 2, 1, 2, "-1 3 0"},
		// The rows by hand: 1 0 a, 0 1 0 and 1 b c, 0 1 b of number 0 of x^2 + a and x^2 + b x + c; 1 0, 1 b of number 1.
		{"1 2 0 0 0, 1 0 1 0 0", "1 2 0 0 0, 1 1 0 1 0, 1 0 0 0 1", 4, 0, 1, "1 0 0 1 0"},
		{"1 2 0 0 0, 1 0 1 0 0", "1 2 0 0 0, 1 1 0 1 0, 1 0 0 0 1", 4, 0, 0, "1 0 2 0 0, 1 0 1 2 0, -2 0 1 0 1, 1 0 0 0 2"},
		// Rows are cut: of number 1 of x^3 + a x + b and x^2 + c the last coefficient, b, is in no row.
		{"1 3 0 0 0, 1 1 1 0 0, 1 0 0 1 0", "1 2 0 0 0, 1 0 0 0 1", 4, 0, 1, "1 0 1 0 0, -1 0 0 0 1"},
		// Fractions, terms in any order and more than once, exponents that go away.
		{"1/2 0 1, 1/3 1 0", "1/5 0 1, 1/7 1 0", 2, 1, 0, "1/210 1 0"}, {"-1 0 0, 1 0 2, 1 2 0", "-1/2 1 0, 1 0 1, -1/2 1 0", 2, 1, 0, "2 2 0, -1 0 0"},
		{"1 0 40, 1 0 1, -1 0 40", "2 0 1, 0 0 40, 3 1 0", 2, 1, 0, "3 1 0"},
	} {
		what := c.a + " and " + c.b
		l, f := Psc(parse(c.a), parse(c.b), c.n, c.v, c.j)
		wantTerms(t, what, l, f, c.m)
		if c.j == 0 {
			l, f = Resultant(parse(c.a), parse(c.b), c.n, c.v)
			wantTerms(t, what, l, f, c.m)
		}
	}
}

// Of drawn polynomials: the determinants of the rows that the chapter words.
func TestPscOfDraws(t *testing.T) {
	d := draw{1}
	for i := range 1500 {
		n := 1 + d.below(4)
		v := d.below(n)
		a, b := d.terms(n, 1+d.below(5), 2, v, 3, i%3 == 0), d.terms(n, 1+d.below(5), 2, v, 3, i%3 == 0)
		p, q := plainOf(a), plainOf(b)
		if len(p) == 0 || len(q) == 0 {
			continue
		}
		ls := [][]api.Term{a, b}
		was := copied(ls)
		what := told(a) + " and " + told(b) + " by " + strconv.Itoa(v)
		for j := range min(p.degree(v), q.degree(v)) + 1 {
			l, f := Psc(a, b, n, v, j)
			wantTerms(t, what+", number "+strconv.Itoa(j), l, f, psc(p, q, v, j).form(n))
		}
		l, f := Resultant(a, b, n, v)
		wantTerms(t, what, l, f, psc(p, q, v, 0).form(n))
		want(t, what+": read alone", toldAll(ls), toldAll(was))
	}
}

// All pairs of polynomials of degrees up to 2 with the coefficients 0, 1 and x.
func TestPscOfAllSmall(t *testing.T) {
	var all [][]api.Term
	for k := range 27 {
		var l []api.Term
		for e := range 3 {
			if c := k % 3; c > 0 {
				l = append(l, api.Term{C: "1", E: []int{c - 1, e}})
			}
			k /= 3
		}
		if l != nil {
			all = append(all, l)
		}
	}
	for _, a := range all {
		for _, b := range all {
			p, q := plainOf(a), plainOf(b)
			for j := range min(p.degree(1), q.degree(1)) + 1 {
				l, f := Psc(a, b, 2, 1, j)
				wantTerms(t, told(a)+" and "+told(b), l, f, psc(p, q, 1, j).form(2))
			}
		}
	}
}

// As many degrees as may be: the values at a point are the resultants of what the polynomials are there.
func TestResultantOfHighDegrees(t *testing.T) {
	d := draw{2}
	for i := range 60 {
		n := 1 + i%4
		v, p := d.below(n), d.below(17)
		a, b := d.terms(n, 8, 2, v, p, i%4 == 0), d.terms(n, 8, 2, v, 16-p, i%4 == 0)
		a = append(a, api.Term{C: "2/3", E: slices.Concat(make([]int, v), []int{p}, make([]int, n-v-1))})
		b = append(b, api.Term{C: "-1", E: slices.Concat(make([]int, v), []int{16 - p}, make([]int, n-v-1))})
		l, f := Resultant(a, b, n, v)
		want(t, "fault", f, none)
		for range 2 {
			at := make([]*big.Rat, n)
			for v := range at {
				at[v] = big.NewRat(int64(d.below(9)-4), 1)
			}
			x, y := fixed(a, v, at), fixed(b, v, at)
			if x.Degree() != plainOf(a).degree(v) || y.Degree() != plainOf(b).degree(v) {
				continue
			}
			want(t, "value", fixed(l, v, at).At(0).Text(), poly.Resultant(x, y).Text())
		}
	}
}

// fixed is the polynomial in v that a polynomial is, where the others are at a point.
func fixed(l []api.Term, v int, at []*big.Rat) poly.Poly {
	var cs []*big.Rat
	for e, c := range plainOf(l) {
		k := new(big.Rat).Set(c)
		for w, x := range at {
			for range e[w] {
				if w != v {
					k.Mul(k, x)
				}
			}
		}
		for len(cs) <= e[v] {
			cs = append(cs, new(big.Rat))
		}
		cs[e[v]].Add(cs[e[v]], k)
	}
	fs := make([]num.Frac, len(cs))
	for i, c := range cs {
		fs[i] = longFrac(c)
	}
	return poly.Of(fs...)
}

// longFrac is a fraction of any length.
func longFrac(x *big.Rat) num.Frac {
	part := func(n *big.Int) num.Int {
		s, ten := num.Of(0), num.Of(10)
		for _, c := range new(big.Int).Abs(n).String() {
			s = s.Mul(ten).Add(num.Of(int(c - '0')))
		}
		return s.Mul(num.Of(n.Sign()))
	}
	f, _ := num.Over(part(x.Num()), part(x.Denom()))
	return f
}

// Where the highest coefficients are not 0, the common divisor has the degree that the numbers tell.
func TestDegreeOfTheCommonDivisor(t *testing.T) {
	d := draw{3}
	seen := map[int]int{}
	for range 400 {
		a, b, c := plainOf(d.terms(2, 3, 1, 1, 2, false)), plainOf(d.terms(2, 3, 1, 1, 2, false)), plainOf(d.terms(2, 3, 1, 1, 2, false))
		if d.below(2) == 0 {
			a, b = a.times(c), b.times(c)
		}
		if len(a) == 0 || len(b) == 0 {
			continue
		}
		k, m := parse(a.form(2)), parse(b.form(2))
		for x := int64(-6); x <= 6; x++ {
			at := []*big.Rat{big.NewRat(x, 2), nil}
			p, q := fixed(k, 1, at), fixed(m, 1, at)
			if p.Degree() != a.degree(1) || q.Degree() != b.degree(1) {
				continue
			}
			common := poly.Gcd(p, q).Degree()
			seen[common]++
			for j := range common + 1 {
				l, f := Psc(k, m, 2, 1, j)
				want(t, "fault", f, none)
				want(t, "is 0", fixed(l, 1, at).At(0).Sign() == 0, j < common)
			}
		}
	}
	for degree := range 4 {
		want(t, "degrees seen", seen[degree] > 0, true)
	}
}

// The numbers of coefficients' digits, of terms and of variables as they may be.
func TestPscOfGreatOnes(t *testing.T) {
	long := strings.Repeat("9", 1000)
	a := parse(long + " 40 8, 1/" + long + " 0 1, -" + long + " 3 0")
	b := parse("-" + long + " 0 8, 3 40 0")
	l, f := Resultant(a, b, 2, 1)
	want(t, "fault", f, none)
	want(t, "first", told(l[:1])[len(l[0].C):], " 640 0")
	at := []*big.Rat{big.NewRat(-1, 1), nil}
	want(t, "value", fixed(l, 1, at).At(0).Text(), poly.Resultant(fixed(a, 1, at), fixed(b, 1, at)).Text())
	d := draw{4}
	a, b = d.terms(4, 400, 1, 3, 8, true), d.terms(4, 400, 1, 3, 8, true)
	l, f = Resultant(a, b, 4, 3)
	want(t, "fault", f, none)
	at = []*big.Rat{big.NewRat(1, 2), big.NewRat(-3, 1), big.NewRat(2, 1), nil}
	want(t, "value", fixed(l, 3, at).At(0).Text(), poly.Resultant(fixed(a, 3, at), fixed(b, 3, at)).Text())
	// Few terms with exponents as high as may be.
	l, f = Resultant(parse("1 40 0 0 8, 1 0 40 0 0"), parse("1 0 0 40 8, -1 40 40 0 0"), 4, 3)
	wantTerms(t, "high", l, f, plainOf(parse("1 80 40 0 0, 1 0 40 40 0")).raised(8).form(4))
}

func (p plain) raised(n int) plain {
	q := plainNumber(1)
	for range n {
		q = q.times(p)
	}
	return q
}
