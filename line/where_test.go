package line

import (
	"strings"
	"testing"

	"radicand/api"
	"radicand/num"
	"radicand/poly"
	"radicand/real"
)

// P6.2

func rels() []int { return []int{api.Eq, api.Ne, api.Lt, api.Le, api.Gt, api.Ge} }

func TestWhere(t *testing.T) {
	for _, c := range []struct {
		p      poly.Poly
		wanted [6]string
	}{
		{of(), [6]string{"(oo;oo)", "", "", "(oo;oo)", "", "(oo;oo)"}},
		{of(7), [6]string{"", "(oo;oo)", "", "", "(oo;oo)", "(oo;oo)"}},
		{of(-7), [6]string{"", "(oo;oo)", "(oo;oo)", "(oo;oo)", "", ""}},
		{of(1, 0, 1), [6]string{"", "(oo;oo)", "", "", "(oo;oo)", "(oo;oo)"}},
		{of(-1, -1, -1), [6]string{"", "(oo;oo)", "(oo;oo)", "(oo;oo)", "", ""}},
		{of(-2, 2), [6]string{"[1]", "(oo;1), (1;oo)", "(oo;1)", "(oo;1]", "(1;oo)", "[1;oo)"}},
		{of(3, -1), [6]string{"[3]", "(oo;3), (3;oo)", "(3;oo)", "[3;oo)", "(oo;3)", "(oo;3]"}},
		{of(-2, 0, 1), [6]string{"[-2 0 1:0], [-2 0 1:1]", "(oo;-2 0 1:0), (-2 0 1:0;-2 0 1:1), (-2 0 1:1;oo)", "(-2 0 1:0;-2 0 1:1)", "[-2 0 1:0;-2 0 1:1]", "(oo;-2 0 1:0), (-2 0 1:1;oo)", "(oo;-2 0 1:0], [-2 0 1:1;oo)"}},
		{of(0, 0, 1), [6]string{"[0]", "(oo;0), (0;oo)", "", "[0]", "(oo;0), (0;oo)", "(oo;oo)"}},
		{of(0, 0, -3), [6]string{"[0]", "(oo;0), (0;oo)", "(oo;0), (0;oo)", "(oo;oo)", "", "[0]"}},
		{of(0, 0, 0, 5), [6]string{"[0]", "(oo;0), (0;oo)", "(oo;0)", "(oo;0]", "(0;oo)", "[0;oo)"}},
		// (x - 1) (x - 2)^2
		{of(-4, 8, -5, 1), [6]string{"[1], [2]", "(oo;1), (1;2), (2;oo)", "(oo;1)", "(oo;1], [2]", "(1;2), (2;oo)", "[1;oo)"}},
		// (x - 1)^2 (x - 2)
		{of(-2, 5, -4, 1), [6]string{"[1], [2]", "(oo;1), (1;2), (2;oo)", "(oo;1), (1;2)", "(oo;2]", "(2;oo)", "[1], [2;oo)"}},
		// -(x^2 - 2)^2
		{of(-4, 0, 4, 0, -1), [6]string{"[-2 0 1:0], [-2 0 1:1]", "(oo;-2 0 1:0), (-2 0 1:0;-2 0 1:1), (-2 0 1:1;oo)", "(oo;-2 0 1:0), (-2 0 1:0;-2 0 1:1), (-2 0 1:1;oo)", "(oo;oo)", "", "[-2 0 1:0], [-2 0 1:1]"}},
	} {
		for i, rel := range rels() {
			l, f := Where(c.p, rel)
			wantSet(t, strings.Join(c.p.Texts(), " ")+" in relation "+whole(rel).Text(), l, f, parse(c.wanted[i]))
		}
	}
}

func TestWhereFaults(t *testing.T) {
	for _, c := range []struct {
		p         poly.Poly
		rel, code int
	}{
		{of(1, 1), 0, api.ErrKind}, {of(1, 1), 7, api.ErrKind}, {of(1, 1), -1, api.ErrKind}, {of(1, 1), 1 << 62, api.ErrKind}, {of(1, 1), -1 << 63, api.ErrKind}, {poly.Poly{}, 0, api.ErrKind}, {power(17), 0, api.ErrKind},
		{power(17), api.Eq, api.ErrMany}, {power(17), api.Ge, api.ErrMany}, {power(200), api.Ne, api.ErrMany}, {power(400), api.Lt, api.ErrMany}, {power(16), api.Eq, 0}, {poly.Poly{}, api.Eq, 0}, {poly.Poly{}, api.Ge, 0},
	} {
		l, f := Where(c.p, c.rel)
		want(t, "fault", f, fault(c.code, 0))
		if c.code != 0 {
			want(t, "nothing", len(l), 0)
		}
	}
}

// between is fractions below all of the numbers, which rise, between each of them and the next, and above all.
func between(t *testing.T, as []api.Alg) []num.Frac {
	t.Helper()
	xs := []num.Frac{whole(-1000000)}
	for i, a := range as {
		for n := 0; ; n++ {
			m, f := real.Near(a, n)
			want(t, "fault", f, none)
			ten, _ := num.Of(10).Pow(n)
			x, _ := num.Over(m.Add(num.Of(1)), ten)
			if i+1 == len(as) {
				xs = append(xs, x.Add(whole(1)))
				break
			}
			if c, _ := real.Cmp(real.Of(x), as[i+1]); c < 0 {
				xs = append(xs, x)
				break
			}
		}
	}
	return xs
}

func wanted(sign, rel int) bool {
	return [3][6]bool{{false, true, true, true, false, false}, {true, false, false, true, false, true}, {false, true, false, false, true, true}}[sign+1][rel-1]
}

// Each set has the numbers between the roots at which p has a right sign; and the roots, if 0 is one.
func TestWhereOfDraws(t *testing.T) {
	d := draw{4}
	for i := range 120 {
		p := d.poly(d.below(4), []int{1, 4, 50}[i%3])
		for p.Degree() < 14 && d.below(4) > 0 {
			q := d.poly(1+d.below(3), 4)
			for range 1 + d.below(3) {
				if p.Degree()+q.Degree() <= 16 {
					p = p.Mul(q)
				}
			}
		}
		p = p.Scale(whole(1 - i%2*2))
		as, f := real.Roots(p)
		want(t, "fault", f, none)
		xs := between(t, as)
		for _, rel := range rels() {
			l, f := Where(p, rel)
			what := strings.Join(p.Texts(), " ") + " in relation " + whole(rel).Text()
			want(t, what, f, none)
			want(t, what+": form", Check(l), none)
			for _, x := range xs {
				is, _ := Holds(l, real.Of(x))
				want(t, what+" at "+x.Text(), is, wanted(p.Eval(x).Sign(), rel))
			}
			for _, a := range as {
				is, _ := Holds(l, a)
				want(t, what+" at a root", is, wanted(0, rel))
			}
			for _, piece := range l {
				wantEnd(t, what, p, piece.From, piece.Low)
				wantEnd(t, what, p, piece.To, piece.High)
			}
		}
		wantOpposites(t, p)
	}
}

// wantEnd is a failure, if p is not 0 at the end of a piece that has one.
func wantEnd(t *testing.T, what string, p poly.Poly, a api.Alg, without bool) {
	t.Helper()
	if !without {
		s, f := real.Sign(p, a)
		want(t, what+": end", f, none)
		want(t, what+": end", s, 0)
	}
}

// wantOpposites holds the sets of one relation against those of others.
func wantOpposites(t *testing.T, p poly.Poly) {
	t.Helper()
	where := func(p poly.Poly, rel int) []api.Piece {
		l, f := Where(p, rel)
		want(t, "fault", f, none)
		return l
	}
	for _, c := range [][2]int{{api.Eq, api.Ne}, {api.Lt, api.Ge}, {api.Le, api.Gt}} {
		l, f := Not(where(p, c[0]))
		wantSet(t, "not", l, f, where(p, c[1]))
		l, f = And(where(p, c[0]), where(p, c[1]))
		wantSet(t, "both", l, f, nil)
		l, f = Or(where(p, c[0]), where(p, c[1]))
		wantSet(t, "one", l, f, []api.Piece{{Low: true, High: true}})
	}
	l, f := Or(where(p, api.Lt), where(p, api.Eq))
	wantSet(t, "below or equal", l, f, where(p, api.Le))
	l, f = And(where(p, api.Le), where(p, api.Ge))
	wantSet(t, "neither", l, f, where(p, api.Eq))
	l, f = Or(where(p, api.Lt), where(p, api.Gt))
	wantSet(t, "unlike", l, f, where(p, api.Ne))
	wantSet(t, "the other way", where(p.Scale(whole(-2)), api.Lt), none, where(p, api.Gt))
}

// The sets of two polynomials and of their product: the sign of a product is the product of the signs.
func TestWhereOfProducts(t *testing.T) {
	d := draw{5}
	for range 60 {
		p, q := d.poly(1+d.below(6), 9), d.poly(1+d.below(6), 9)
		p1, _ := Where(p, api.Gt)
		p0, _ := Where(p, api.Lt)
		q1, _ := Where(q, api.Gt)
		q0, _ := Where(q, api.Lt)
		high, _ := And(p1, q1)
		low, _ := And(p0, q0)
		both, f := Or(high, low)
		l, _ := Where(p.Mul(q), api.Gt)
		wantSet(t, "product", both, f, l)
	}
}

// All 16 roots real, and coefficients longer than what poly.New reads.
func TestWhereOfTheGreatestDegree(t *testing.T) {
	a, b := of(1), of(0, 1)
	for range 15 {
		a, b = b, of(0, 2).Mul(b).Sub(a)
	}
	l, f := Where(b, api.Lt)
	want(t, "fault", f, none)
	want(t, "pieces", len(l), 8)
	want(t, "form", Check(l), none)
	l, _ = Where(b, api.Ge)
	want(t, "pieces", len(l), 9)
	l, _ = Where(power(16), api.Gt)
	want(t, "x^16", told(l), told(parse("(oo;0), (0;oo)")))
	d := draw{6}
	long := num.Whole(d.long(600))
	p := poly.Of(long.Mul(long).Neg().Sub(whole(1)), whole(0), whole(1))
	l, f = Where(p, api.Le)
	want(t, "fault", f, none)
	want(t, "pieces", len(l), 1)
	want(t, "its end", l[0].To.F[0], p.At(0).Text())
	want(t, "too long to be read", Check(l), fault(api.ErrLong, 0))
}
