package real

import (
	"slices"
	"strings"
	"testing"

	"radicand/api"
)

// What is not written as an algebraic number, with its fault.
func bad() []struct {
	a        api.Alg
	code, at int
} {
	type row = struct {
		a        api.Alg
		code, at int
	}
	texts := func(n int, last string) []string { return append(slices.Repeat([]string{"0"}, n), last) }
	return []row{
		// poly.New's.
		{api.Alg{F: texts(201, "1")}, api.ErrMany, 0}, {api.Alg{F: texts(201, "x")}, api.ErrMany, 0}, {alg("1 x 1", 0), api.ErrText, 1}, {alg("-0 1", 0), api.ErrText, 0},
		{alg("2/4 1", 0), api.ErrForm, 0}, {alg("-2 2/4 1", 0), api.ErrForm, 1}, {alg("-2 0 "+strings.Repeat("9", 1001), 0), api.ErrLong, 2}, {alg("-2 0 1 0", 0), api.ErrForm, 3},
		{api.Alg{F: []string{""}}, api.ErrText, 0}, {api.Alg{F: []string{"0"}}, api.ErrForm, 0}, {alg("-2 1 0", 0), api.ErrForm, 2},
		// A degree above MaxFactor, whatever it is else.
		{api.Alg{F: texts(17, "1")}, api.ErrMany, 0}, {api.Alg{F: texts(200, "1"), K: -1}, api.ErrMany, 0}, {api.Alg{F: texts(17, "-1/2")}, api.ErrMany, 0},
		// Not primitive.
		{alg("-4 0 2", 0), api.ErrForm, 0}, {alg("2 0 -1", 0), api.ErrForm, 0}, {alg("-1 0 1/2", 0), api.ErrForm, 0}, {alg("0 2", 0), api.ErrForm, 0}, {alg("0 -1", 0), api.ErrForm, 0}, {alg("-1/2 1", 0), api.ErrForm, 0},
		// Not irreducible.
		{api.Alg{}, api.ErrForm, 0}, {api.Alg{F: []string{}}, api.ErrForm, 0}, {alg("1", 0), api.ErrForm, 0}, {alg("-7", 0), api.ErrForm, 0}, {alg("-4 0 1", 0), api.ErrForm, 0}, {alg("0 0 1", 0), api.ErrForm, 0},
		{alg("4 0 0 0 1", 0), api.ErrForm, 0}, {alg("0 -2 0 1", 1), api.ErrForm, 0}, {alg("1 2 1", -1), api.ErrForm, 0}, {api.Alg{F: texts(16, "1")}, api.ErrForm, 0},
		// No such root.
		{alg("1 0 1", 0), api.ErrRange, 0}, {alg("-2 0 1", 2), api.ErrRange, 0}, {alg("-2 0 1", -1), api.ErrRange, 0}, {alg("-2 0 0 1", 1), api.ErrRange, 0}, {alg("0 1", 1), api.ErrRange, 0}, {alg("0 1", -1), api.ErrRange, 0},
		{alg("1 0 -10 0 1", 4), api.ErrRange, 0}, {alg("-1 1", 1<<62), api.ErrRange, 0}, {alg("-1 1", -1<<63), api.ErrRange, 0}, {alg("2 0 0 0 1", 0), api.ErrRange, 0},
	}
}

// wantNothing is a failure, if a number comes with a fault.
func wantNothing(t *testing.T, a api.Alg) {
	t.Helper()
	want(t, "nothing with a fault", len(a.F)+a.K, 0)
}

func TestFaultsOfNumbers(t *testing.T) {
	good := alg("-2 0 1", 1)
	for _, c := range bad() {
		what, wanted := told(c.a), fault(c.code, c.at)
		m, f := Near(c.a, 3)
		want(t, "Near: "+what, f, wanted)
		want(t, "nothing", m.Sign(), 0)
		s, f := Sign(of(-1, 3), c.a)
		want(t, "Sign: "+what, f, wanted)
		want(t, "nothing", s, 0)
		_, f = Sign(of(), c.a)
		want(t, "Sign of 0: "+what, f, wanted)
		b, f := Neg(c.a)
		want(t, "Neg: "+what, f, wanted)
		wantNothing(t, b)
		b, f = Inv(c.a)
		want(t, "Inv: "+what, f, wanted)
		wantNothing(t, b)
		for _, call := range []two{Add, Mul, compared} {
			b, f = call(c.a, good)
			want(t, "ahead: "+what, f, wanted)
			wantNothing(t, b)
			b, f = call(good, c.a)
			want(t, "behind: "+what, f, wanted)
			wantNothing(t, b)
			for _, other := range bad() {
				_, f = call(c.a, other.a)
				want(t, "two of them: "+what, f, wanted)
			}
		}
	}
}

// compared is Cmp as a call that answers a number, of which what it tells is K.
func compared(a, b api.Alg) (api.Alg, api.Fault) {
	c, f := Cmp(a, b)
	return api.Alg{K: c}, f
}

// The product of the degrees may be MaxFactor, but not above it; Cmp takes any two.
func TestFaultsOfDegrees(t *testing.T) {
	for m := 1; m <= 16; m++ {
		for n := 1; n <= 16; n++ {
			a, b := api.Alg{F: power(m).Sub(of(2)).Texts()}, api.Alg{F: power(n).Sub(of(3)).Texts()}
			_, f := Cmp(a, b)
			want(t, "Cmp", f, none)
			if m*n <= 16 {
				product, sum := made(t, Mul, a, b), made(t, Add, a, b)
				want(t, "degree of the product", len(product.F) > 1 && len(product.F) <= m*n+1, true)
				want(t, "degree of the sum", len(sum.F), m*n+1)
				continue
			}
			for _, call := range []two{Add, Mul} {
				c, f := call(a, b)
				want(t, "too many", f, fault(api.ErrMany, 0))
				wantNothing(t, c)
			}
		}
	}
	zero := alg("0 1", 0)
	want(t, "0 and degree 16", told(made(t, Mul, zero, api.Alg{F: power(16).Sub(of(2)).Texts()})), "0 1 K 0")
	_, f := Add(api.Alg{F: power(9).Sub(of(2)).Texts()}, api.Alg{F: power(9).Sub(of(2)).Texts(), K: 1})
	want(t, "its own fault first", f, fault(api.ErrRange, 0))
}
