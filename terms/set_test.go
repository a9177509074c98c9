package terms

import (
	"math/big"
	"slices"
	"strings"
	"testing"

	"radicand/api"
	"radicand/num"
)

// A draw gives numbers, the same ones each time.
type draw struct{ state uint64 }

func (d *draw) below(n int) int {
	d.state += 0x9e3779b97f4a7c15
	z := d.state
	z = (z ^ z>>30) * 0xbf58476d1ce4e5b9
	z = (z ^ z>>27) * 0x94d049bb133111eb
	return int((z ^ z>>31) % uint64(n))
}

// poly has up to so many terms, fractions with small numbers as coefficients.
func (d *draw) poly(many, most int) Poly {
	return Total(many, func(int) Poly {
		c, _ := num.Over(num.Of(d.below(41)-20), num.Of(1+d.below(12)))
		return Single(c, Power{d.below(most + 1), d.below(most + 1), d.below(most + 1), d.below(most + 1)})
	})
}

func wantSame(t *testing.T, what string, p, q Poly) {
	t.Helper()
	wantForm(t, what, p)
	want(t, what, Cmp(p, q), 0)
	want(t, what+": terms", len(p.ts), len(q.ts))
}

func TestSubAndScale(t *testing.T) {
	d := draw{1}
	for range 300 {
		p, q := d.poly(d.below(6), 2), d.poly(d.below(6), 2)
		wantSame(t, "p - q + q", p.Sub(q).Add(q), p)
		wantSame(t, "p - p", p.Sub(p), Poly{})
		wantSame(t, "0 p", p.Scale(num.Frac{}), Poly{})
		wantSame(t, "3 p", p.Scale(whole(3)), p.Add(p).Add(p))
		wantSame(t, "p q", p.Mul(q), q.Mul(p))
		wantSame(t, "p number", p.Mul(Number(whole(-2))), p.Scale(whole(-2)))
	}
	wantSame(t, "number 0", Number(num.Frac{}), Poly{})
}

func TestIsNumber(t *testing.T) {
	for _, c := range []struct {
		p  Poly
		is bool
	}{
		{Poly{}, true}, {Number(whole(5)), true}, {Single(whole(5), Power{0, 0, 0, 1}), false}, {Single(whole(5), Power{1}).Add(Number(whole(1))), false},
		{Number(whole(1)).Add(Single(whole(1), Power{0, 2})).Sub(Single(whole(1), Power{0, 2})), true},
	} {
		want(t, "is a number", c.p.IsNumber(), c.is)
	}
}

// The coefficients by a variable, times its powers, come to the polynomial.
func TestBy(t *testing.T) {
	d := draw{2}
	for range 400 {
		p, v := d.poly(d.below(9), 3), d.below(api.MaxVars)
		cs := p.By(v)
		if len(p.ts) == 0 {
			want(t, "of 0", len(cs), 0)
			continue
		}
		want(t, "degree", len(cs), p.Degree(v)+1)
		want(t, "last", cs[len(cs)-1].Len() > 0, true)
		for _, c := range cs {
			wantForm(t, "coefficient", c)
			want(t, "its degree", c.Degree(v), 0)
		}
		wantSame(t, "together", Total(len(cs), func(i int) Poly { return cs[i].Mul(Single(whole(1), Power{}.with(v, i))) }), p)
	}
}

func TestEach(t *testing.T) {
	p := read(t, 2, api.Term{C: "1/2", E: []int{0, 3}}, api.Term{C: "7", E: []int{2, 0}}, api.Term{C: "-1", E: []int{0, 0}})
	var told []string
	for e, c := range p.Each {
		told = append(told, c.Text())
		if e == (Power{0, 3}) {
			break
		}
	}
	want(t, "the first two", strings.Join(told, " "), "7 1/2")
	var again []Poly
	for e, c := range p.Each {
		again = append(again, Single(c, e))
	}
	wantSame(t, "together", Total(len(again), func(i int) Poly { return again[i] }), p)
}

func TestPrimitive(t *testing.T) {
	d := draw{3}
	for range 500 {
		p := d.poly(d.below(7), 4)
		k, q := p.Primitive()
		wantSame(t, "k q", q.Scale(k), p)
		if len(p.ts) == 0 {
			want(t, "k of 0", k.Sign(), 0)
			continue
		}
		want(t, "first", q.ts[0].c.Sign(), 1)
		divisor := new(big.Int)
		for _, x := range q.ts {
			c, whole := new(big.Int).SetString(x.c.Text(), 10)
			want(t, "an integer", whole, true)
			divisor.GCD(nil, nil, divisor, c.Abs(c))
		}
		want(t, "divisor", divisor.String(), "1")
		_, again := p.Scale(whole(-6)).Primitive()
		wantSame(t, "of another multiple", again, q)
		third, _ := num.Over(num.Of(1), num.Of(35))
		_, again = p.Scale(third).Primitive()
		wantSame(t, "of a part", again, q)
	}
}

// All of a list that rises in the order of a set.
func TestCmp(t *testing.T) {
	x := func(n int, e Power) Poly { return Single(whole(n), e) }
	sum := func(ps ...Poly) Poly { return Total(len(ps), func(i int) Poly { return ps[i] }) }
	half, _ := num.Over(num.Of(1), num.Of(2))
	rising := []Poly{
		x(1, Power{2}),
		x(7, Power{1, 1}),
		sum(x(7, Power{1, 1}), x(3, Power{1})),
		sum(x(7, Power{1, 1}), x(3, Power{1}), x(1, Power{0, 9})),
		sum(x(7, Power{1, 1}), x(2, Power{1}), x(5, Power{})),
		x(3, Power{1, 1}),
		sum(x(3, Power{1, 1}), x(-1, Power{0, 0, 0, 1})),
		sum(x(3, Power{1, 1}), x(-2, Power{0, 0, 0, 1})),
		sum(x(3, Power{1, 1}), x(9, Power{})),
		Single(half, Power{1, 1}),
		x(-1, Power{1, 1}),
		x(1, Power{1, 0, 40}),
		x(1, Power{0, 0, 0, 3}),
		x(9, Power{}),
	}
	for i, p := range rising {
		for j, q := range rising {
			want(t, "ahead", Cmp(p, q) < 0, i < j)
			want(t, "behind", Cmp(p, q) > 0, i > j)
		}
	}
	shuffled := slices.Clone(rising)
	slices.Reverse(shuffled)
	slices.SortFunc(shuffled, Cmp)
	for i, p := range rising {
		wantSame(t, "sorted", shuffled[i], p)
	}
}
