package algebraic

import (
	"strings"
	"testing"

	"radicand/api"
	"radicand/num"
	"radicand/poly"
)

func TestZeros(t *testing.T) {
	power := func(p poly.Poly, n int) poly.Poly {
		q := of(1)
		for range n {
			q = q.Mul(p)
		}
		return q
	}
	for _, c := range []struct {
		p      poly.Poly
		wanted string
	}{
		{of(5), ""}, {of(1, 0, 1), ""}, {of(0, 3), "0 1 K 0 times 1, "}, {of(0, 0, 0, -3), "0 1 K 0 times 3, "}, {power(of(-6, 4), 16), "-3 2 K 0 times 16, "},
		{power(of(-2, 0, 1), 2).Mul(power(of(-1, 1), 3)).Mul(of(0, 1)).Mul(of(1, 0, 1)), "-2 0 1 K 0 times 2, 0 1 K 0 times 1, -1 1 K 0 times 3, -2 0 1 K 1 times 2, "},
		{power(of(-2, 0, 1), 3).Mul(power(of(-3, 0, 1), 5)), "-3 0 1 K 0 times 5, -2 0 1 K 0 times 3, -2 0 1 K 1 times 3, -3 0 1 K 1 times 5, "},
	} {
		zs, f := Zeros(c.p)
		want(t, "fault", f, none)
		var b strings.Builder
		for _, z := range zs {
			b.WriteString(told(z.Told()) + " times " + num.Of(z.Times).Text() + ", ")
		}
		want(t, "zeros", b.String(), c.wanted)
	}
	for _, c := range []struct {
		p      poly.Poly
		wanted api.Fault
	}{{of(), fault(api.ErrZero, 0)}, {power(of(1, 1), 17), fault(api.ErrMany, 0)}} {
		zs, f := Zeros(c.p)
		want(t, "fault", f, c.wanted)
		want(t, "none", len(zs), 0)
	}
}

// The integers of factors may be longer than those that are read.
func TestReadLong(t *testing.T) {
	a := num.Of(1)
	for i := range 400 {
		a = a.Mul(num.Of(1000 - 7*(i%3)))
		if i%50 == 0 {
			want(t, "integer", longInt(a.Text()).Cmp(a), 0)
			want(t, "its opposite", longInt(a.Neg().Text()).Cmp(a.Neg()), 0)
		}
	}
	want(t, "long", len(a.Text()) > api.MaxDigits, true)
	p := poly.Of(num.Whole(a.Neg()), num.Frac{}, num.Whole(num.Of(1)))
	want(t, "polynomial", readLong(p.Texts()).Same(p), true)
	want(t, "0", longInt("0").Sign(), 0)
}
