package multi

import (
	"strings"
	"testing"

	"radicand/api"
)

// Add and Mul

func TestAdd(t *testing.T) {
	for _, c := range []struct {
		a, b, sum string
		n         int
	}{
		{"", "", "", 1}, {"1 1", "", "1 1", 1}, {"", "1 1", "1 1", 1}, {"1 1", "-1 1", "", 1}, {"1 1, 1 0", "-1 1, 1 0", "2 0", 1}, {"0 4", "0 4", "", 1},
		{"1/2 1 0, 1/3 0 1", "1/2 1 0, 1/6 0 1", "1 1 0, 1/2 0 1", 2}, {"1 0 40, 1 40 0", "1 40 40", "1 40 40, 1 40 0, 1 0 40", 2}, {"1 1, 1 1", "1 1, -2 1", "1 1", 1},
	} {
		l, f := Add(parse(c.a), parse(c.b), c.n, api.Lex)
		wantTerms(t, c.a+" and "+c.b, l, f, c.sum)
	}
}

func TestMul(t *testing.T) {
	for _, c := range []struct {
		a, b, product string
		n             int
	}{
		{"", "", "", 1}, {"1 1", "", "", 1}, {"", "1 1", "", 1}, {"0 1", "1 1", "", 1}, {"1 1, -1 1", "5 2", "", 1}, {"1 1, 1 0", "1 1, -1 0", "1 2, -1 0", 1},
		{"1 0", "3/2 2", "3/2 2", 1}, {"1/2 1 0, 1/3 0 1", "1/2 1 0, -1/3 0 1", "1/4 2 0, -1/9 0 2", 2}, {"1 40", "1 40", "1 80", 1}, {"1 40 40 40 40", "-1/2 40 40 40 40", "-1/2 80 80 80 80", 4},
		{"1 1, 1 1", "1 1, 1 1", "4 2", 1}, {"1 1 0, 1 0 1", "1 1 0, 1 0 1", "1 2 0, 2 1 1, 1 0 2", 2}, {"1 2 0, -1 1 1, 1 0 2", "1 1 0, 1 0 1", "1 3 0, 1 0 3", 2},
	} {
		for _, ab := range [][2]string{{c.a, c.b}, {c.b, c.a}} {
			l, f := Mul(parse(ab[0]), parse(ab[1]), c.n, api.Lex)
			wantTerms(t, ab[0]+" times "+ab[1], l, f, c.product)
		}
	}
}

func TestOfTwoDraws(t *testing.T) {
	d := draw{6}
	for i := range 1500 {
		n := 1 + d.below(4)
		most := []int{1, 3, 40}[d.below(3)]
		a, b := d.terms(n, d.below(9), most, i%kinds), d.terms(n, d.below(9), most, i%kinds)
		for _, order := range orders {
			l, f := Add(a, b, n, order)
			wantTerms(t, told(a)+" and "+told(b), l, f, plainOf(a, b).form(n, order))
			l, f = Mul(a, b, n, order)
			wantTerms(t, told(a)+" times "+told(b), l, f, plainOf(a).times(plainOf(b)).form(n, order))
		}
	}
}

// What is answered may be more than may be handed in.
func TestGreatProducts(t *testing.T) {
	d := draw{7}
	for i, c := range []struct{ n, many, most, kind int }{{1, 400, 40, 0}, {1, 400, 40, 1}, {2, 400, 40, 0}, {2, 60, 40, 2}, {3, 100, 40, 1}, {4, 100, 40, 0}, {4, 100, 1, 2}} {
		a, b := d.terms(c.n, c.many, c.most, c.kind), d.terms(c.n, c.many, c.most, c.kind)
		l, f := Mul(a, b, c.n, i%3)
		wantTerms(t, "great", l, f, plainOf(a).times(plainOf(b)).form(c.n, i%3))
	}
	long := strings.Repeat("9", 1000)
	a := parse(long + " 40 0, 1/" + long + " 0 40, -" + long + " 1 1")
	for _, order := range orders {
		l, f := Mul(a, a, 2, order)
		wantTerms(t, "long", l, f, plainOf(a).times(plainOf(a)).form(2, order))
		l, f = Add(a, a, 2, order)
		wantTerms(t, "long", l, f, plainOf(a, a).form(2, order))
	}
}

// All pairs of polynomials of two variables with two terms and small coefficients.
func TestOfAllSmall(t *testing.T) {
	var all [][]api.Term
	for _, c := range []string{"-1", "0", "2/3"} {
		for _, e := range powersBelow(2, 2) {
			for _, f := range powersBelow(2, 2) {
				all = append(all, []api.Term{{C: c, E: e}, {C: "1", E: f}})
			}
		}
	}
	for _, a := range all {
		for _, b := range all {
			l, f := Add(a, b, 2, api.Grevlex)
			wantTerms(t, told(a)+" and "+told(b), l, f, plainOf(a, b).form(2, api.Grevlex))
			l, f = Mul(a, b, 2, api.Grlex)
			wantTerms(t, told(a)+" times "+told(b), l, f, plainOf(a).times(plainOf(b)).form(2, api.Grlex))
		}
	}
}
