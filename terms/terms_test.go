package terms

import (
	"slices"
	"testing"

	"radicand/api"
	"radicand/num"
)

// (What layer multi answers goes through here: its tests hold this package against plain ways.)

// want is a failure, if what is told is not what is wanted.
func want[T comparable](t *testing.T, what string, got, wanted T) {
	t.Helper()
	if got != wanted {
		t.Fatalf("%s: got %v, want %v", what, got, wanted)
	}
}

func whole(n int) num.Frac { return num.Whole(num.Of(n)) }

// read is the polynomial with these terms.
func read(t *testing.T, n int, l ...api.Term) Poly {
	t.Helper()
	p, f := Read(l, n, api.Lex)
	want(t, "fault", f, api.Fault{})
	return p
}

func wantForm(t *testing.T, what string, p Poly) {
	t.Helper()
	for i, x := range p.ts {
		want(t, what+": 0", x.c.Sign() == 0, false)
		want(t, what+": order", i == 0 || lex(p.ts[i-1].e, x.e) < 0, true)
	}
}

func TestOrders(t *testing.T) {
	falling := map[int][]Power{
		api.Lex:     {{2, 0, 0, 0}, {1, 2, 0, 0}, {1, 0, 9, 9}, {0, 3, 0, 0}, {0, 2, 0, 1}, {0, 0, 1, 0}, {0, 0, 0, 7}, {}},
		api.Grlex:   {{0, 0, 0, 4}, {1, 0, 2, 0}, {1, 0, 1, 1}, {0, 3, 0, 0}, {0, 2, 1, 0}, {2, 0, 0, 0}, {0, 0, 0, 1}, {}},
		api.Grevlex: {{0, 0, 0, 4}, {0, 3, 0, 0}, {0, 2, 1, 0}, {1, 0, 2, 0}, {2, 0, 0, 1}, {0, 1, 0, 2}, {2, 0, 0, 0}, {0, 0, 0, 1}, {}},
	}
	for order, l := range falling {
		ahead := inOrder(order)
		for i, a := range l {
			for j, b := range l {
				want(t, "ahead", ahead(a, b) < 0, i < j)
				want(t, "behind", ahead(a, b) > 0, i > j)
				// What is ahead stays ahead in a product.
				by := Power{3, 1, 4, 1}
				want(t, "times", ahead(a.times(by), b.times(by)) < 0, i < j)
			}
		}
	}
}

// (x + y)^n has the numbers of Pascal's triangle, far above the exponents that are handed in.
func TestPowers(t *testing.T) {
	p := read(t, 2, api.Term{C: "1", E: []int{1, 0}}, api.Term{C: "1", E: []int{0, 1}})
	q, line := p, []num.Int{num.Of(1), num.Of(1)}
	for n := 2; n <= 300; n++ {
		q = q.Mul(p)
		next := []num.Int{num.Of(1)}
		for i := range line[1:] {
			next = append(next, line[i].Add(line[i+1]))
		}
		line = append(next, num.Of(1))
	}
	wantForm(t, "a power", q)
	for i, x := range q.Written(2, api.Lex) {
		want(t, "a number", x.C, line[i].Text())
		want(t, "exponents", slices.Equal(x.E, []int{300 - i, i}), true)
	}
	half, _ := num.ParseFrac("1/2")
	want(t, "at a half and a half", q.Value([]num.Frac{half, half}).Cmp(whole(1)), 0)
	two := num.Of(1)
	for range 300 {
		two = two.Add(two)
	}
	want(t, "at 1 and 1", q.Value([]num.Frac{whole(1), whole(1)}).Text(), two.Text())
	r := q.Fix(0, half.Neg()).Fix(1, half)
	want(t, "at a half's opposite and a half", len(r.ts), 0)
	want(t, "the derivative", len(q.Derive(0).Add(q.Derive(1).Mul(number(-1))).ts), 0)
	want(t, "by the other", q.Derive(1).ts[0].c.Text(), "300")
}

func number(n int) Poly { return Single(whole(n), Power{}) }

func TestTotal(t *testing.T) {
	for n := range 40 {
		p := total(3, 3+n, func(i int) Poly { return Single(whole(i-10), Power{i % 5, i % 3}) })
		wantForm(t, "a sum", p)
		q := Poly{}
		for i := 3; i < 3+n; i++ {
			q = Single(whole(i-10), Power{i % 5, i % 3}).Add(q)
		}
		want(t, "one by one", len(p.Add(q.Mul(number(-1))).ts), 0)
		want(t, "as much", len(p.ts), len(q.ts))
	}
}

// No call changes a polynomial.
func TestValuesStay(t *testing.T) {
	p := read(t, 2, api.Term{C: "2/3", E: []int{2, 1}}, api.Term{C: "-1", E: []int{0, 4}}, api.Term{C: "5", E: []int{0, 0}})
	was := slices.Clone(p.ts)
	q := p.Add(Poly{})
	p.Add(p)
	p.Mul(q)
	p.Fix(1, whole(0))
	p.Derive(0)
	p.Value([]num.Frac{whole(3), whole(4)})
	for _, order := range []int{api.Lex, api.Grlex, api.Grevlex} {
		l := p.Written(2, order)
		l[0].E[0] = 99
	}
	for i, x := range was {
		want(t, "power", p.ts[i].e, x.e)
		want(t, "coefficient", p.ts[i].c.Cmp(x.c), 0)
		want(t, "of the sum with 0", q.ts[i].e, x.e)
	}
}

func TestRead(t *testing.T) {
	p, f := Read([]api.Term{{C: "1", E: []int{1}}, {C: "x", E: []int{1}}}, 1, api.Lex)
	want(t, "fault", f, api.Fault{Code: api.ErrText, At: 1})
	want(t, "nothing", len(p.ts), 0)
	p = read(t, 1, api.Term{C: "1", E: []int{1}}, api.Term{C: "0", E: []int{3}}, api.Term{C: "-1", E: []int{1}})
	want(t, "0", len(p.ts), 0)
	want(t, "0's value", p.Value([]num.Frac{whole(7)}).Text(), "0")
	want(t, "0 written", len(p.Written(1, api.Grlex)), 0)
}
