package real

import (
	"slices"
	"testing"

	"radicand/api"
	"radicand/num"
	"radicand/poly"
)

// Neg, Add, Mul, Inv, and what follows

type two func(a, b api.Alg) (api.Alg, api.Fault)

// made is what the call makes of a and b, of which the test takes it that it is not refused.
func made(t *testing.T, call two, a, b api.Alg) api.Alg {
	t.Helper()
	c, f := call(a, b)
	want(t, "fault of "+told(a)+" and "+told(b), f, none)
	return c
}

func opposite(t *testing.T, a api.Alg) api.Alg {
	t.Helper()
	b, f := Neg(a)
	want(t, "fault of "+told(a), f, none)
	return b
}

func over(t *testing.T, a api.Alg) api.Alg {
	t.Helper()
	b, f := Inv(a)
	want(t, "fault of "+told(a), f, none)
	return b
}

func TestAdd(t *testing.T) {
	for _, c := range []struct {
		f      string
		k      int
		g      string
		l      int
		wanted string
	}{
		{"-2 0 1", 1, "-3 0 1", 1, "1 0 -10 0 1 K 3"}, {"-2 0 1", 0, "-3 0 1", 1, "1 0 -10 0 1 K 2"}, {"-2 0 1", 1, "-3 0 1", 0, "1 0 -10 0 1 K 1"},
		{"-2 0 1", 0, "-3 0 1", 0, "1 0 -10 0 1 K 0"}, {"-2 0 1", 1, "-2 0 1", 1, "-8 0 1 K 1"}, {"-2 0 1", 1, "-2 0 1", 0, "0 1 K 0"},
		{"0 1", 0, "0 1", 0, "0 1 K 0"}, {"0 1", 0, "-2 0 1", 1, "-2 0 1 K 1"}, {"-1 2", 0, "-1 3", 0, "-5 6 K 0"}, {"-1 2", 0, "-1 2", 0, "-1 1 K 0"}, {"-1 2", 0, "1 2", 0, "0 1 K 0"},
		{"-1 2", 0, "-2 0 1", 1, "-7 -4 4 K 1"}, {"-2 0 1", 1, "-8 0 1", 1, "-18 0 1 K 1"}, {"-2 0 1", 0, "-8 0 1", 1, "-2 0 1 K 1"}, {"-1 -1 1", 0, "-1 -1 1", 1, "-1 1 K 0"},
		{"-1 -1 1", 0, "-5 0 1", 1, "-1 -1 1 K 1"}, {"-2 0 0 1", 0, "-2 0 0 1", 0, "-16 0 0 1 K 0"}, {"-1 0 2", 1, "-1 0 2", 1, "-2 0 1 K 1"}, {"-1 0 2", 1, "-1 0 8", 1, "-9 0 8 K 1"},
	} {
		a, b := alg(c.f, c.k), alg(c.g, c.l)
		want(t, told(a)+" and "+told(b), told(made(t, Add, a, b)), c.wanted)
		want(t, told(b)+" and "+told(a), told(made(t, Add, b, a)), c.wanted)
	}
}

func TestMul(t *testing.T) {
	for _, c := range []struct {
		f      string
		k      int
		g      string
		l      int
		wanted string
	}{
		{"-2 0 1", 1, "-2 0 1", 1, "-2 1 K 0"}, {"-2 0 1", 0, "-2 0 1", 1, "2 1 K 0"}, {"-2 0 1", 0, "-2 0 1", 0, "-2 1 K 0"}, {"-2 0 1", 1, "-3 0 1", 1, "-6 0 1 K 1"},
		{"-2 0 1", 1, "-3 0 1", 0, "-6 0 1 K 0"}, {"0 1", 0, "-3 0 1", 0, "0 1 K 0"}, {"0 1", 0, "0 1", 0, "0 1 K 0"}, {"-2 3", 0, "-3 2", 0, "-1 1 K 0"}, {"-2 3", 0, "3 2", 0, "1 1 K 0"},
		{"-2 3", 0, "5 7", 0, "10 21 K 0"}, {"-1 2", 0, "-2 0 1", 1, "-1 0 2 K 1"}, {"1 2", 0, "-2 0 1", 1, "-1 0 2 K 0"}, {"-1 -1 1", 0, "-1 -1 1", 1, "1 1 K 0"},
		{"-2 0 0 1", 0, "-4 0 0 1", 0, "-2 1 K 0"}, {"-2 0 0 1", 0, "-3 0 0 1", 0, "-6 0 0 1 K 0"}, {"-2 0 1", 1, "-8 0 1", 0, "4 1 K 0"}, {"1 0 -10 0 1", 3, "1 0 -10 0 1", 2, "-1 1 K 0"},
		{"1 0 -10 0 1", 3, "1 0 -10 0 1", 3, "1 -10 1 K 1"}, {"1 0 -10 0 1", 0, "1 0 -10 0 1", 1, "-1 1 K 0"},
	} {
		a, b := alg(c.f, c.k), alg(c.g, c.l)
		want(t, told(a)+" and "+told(b), told(made(t, Mul, a, b)), c.wanted)
		want(t, told(b)+" and "+told(a), told(made(t, Mul, b, a)), c.wanted)
	}
}

func TestNegAndInv(t *testing.T) {
	for _, c := range []struct {
		f        string
		k        int
		neg, inv string
	}{
		{"-2 0 1", 1, "-2 0 1 K 0", "-1 0 2 K 1"}, {"-2 0 1", 0, "-2 0 1 K 1", "-1 0 2 K 0"}, {"-3 2", 0, "3 2 K 0", "-2 3 K 0"}, {"3 2", 0, "-3 2 K 0", "2 3 K 0"}, {"-1 1", 0, "1 1 K 0", "-1 1 K 0"},
		{"-1 -1 1", 0, "-1 1 1 K 1", "-1 1 1 K 0"}, {"-1 -1 1", 1, "-1 1 1 K 0", "-1 1 1 K 1"}, {"-2 0 0 1", 0, "2 0 0 1 K 0", "-1 0 0 2 K 0"},
		{"1 0 -10 0 1", 0, "1 0 -10 0 1 K 3", "1 0 -10 0 1 K 1"}, {"1 0 -10 0 1", 1, "1 0 -10 0 1 K 2", "1 0 -10 0 1 K 0"}, {"1 0 -10 0 1", 3, "1 0 -10 0 1 K 0", "1 0 -10 0 1 K 2"},
		// All three roots above 0, and all below.
		{"-1 9 -6 1", 0, "1 9 6 1 K 2", "-1 6 -9 1 K 2"}, {"-1 9 -6 1", 1, "1 9 6 1 K 1", "-1 6 -9 1 K 1"}, {"1 9 6 1", 0, "-1 9 -6 1 K 2", "1 6 9 1 K 2"},
		{"1 -3 0 1", 0, "-1 -3 0 1 K 2", "1 0 -3 1 K 0"}, {"1 -3 0 1", 1, "-1 -3 0 1 K 1", "1 0 -3 1 K 2"}, {"1 -3 0 1", 2, "-1 -3 0 1 K 0", "1 0 -3 1 K 1"},
	} {
		a := alg(c.f, c.k)
		want(t, "opposite of "+told(a), told(opposite(t, a)), c.neg)
		want(t, "1 over "+told(a), told(over(t, a)), c.inv)
	}
	want(t, "opposite of 0", told(opposite(t, Of(num.Frac{}))), "0 1 K 0")
	b, f := Inv(Of(num.Frac{}))
	want(t, "1 over 0", f, fault(api.ErrZero, 0))
	want(t, "nothing", len(b.F)+b.K, 0)
}

// wantMade holds what is made of a and b against what is made of two fractions around each.
func wantMade(t *testing.T, a, b api.Alg, digits int) {
	t.Helper()
	what := told(a) + " and " + told(b)
	a0, a1 := bracket(t, a, digits)
	b0, b1 := bracket(t, b, digits)
	bit := tenth(digits)
	wantIn(t, "sum: "+what, made(t, Add, a, b), a0.Add(b0).Sub(bit), a1.Add(b1))
	ends := []num.Frac{a0.Mul(b0), a0.Mul(b1), a1.Mul(b0), a1.Mul(b1)}
	lo, hi := slices.MinFunc(ends, num.Frac.Cmp), slices.MaxFunc(ends, num.Frac.Cmp)
	wantIn(t, "product: "+what, made(t, Mul, a, b), lo.Sub(bit), hi)
	wantIn(t, "opposite: "+what, opposite(t, a), a1.Neg().Sub(bit), a0.Neg())
	if a0.Sign()*a1.Sign() > 0 {
		x, _ := whole(1).Quo(a0)
		y, _ := whole(1).Quo(a1)
		wantIn(t, "1 over: "+what, over(t, a), y.Sub(bit), x)
	}
}

func TestMadeOfDraws(t *testing.T) {
	d := draw{9}
	for i := range 150 {
		n := 1 + i%16
		wantMade(t, d.alg(n, 12), d.alg(16/n, 12), 80)
	}
	for _, most := range []int{1, 2, 100000, 1 << 50} {
		for range 10 {
			wantMade(t, d.alg(4, most), d.alg(4, most), 90)
			wantMade(t, d.alg(2, most), d.alg(8, most), 90)
		}
	}
}

func TestMadeOfAllRoots(t *testing.T) {
	// All real of degree 4.
	p, q := of(1, 0, -10, 0, 1), of(1, 1, -4, -4, 1)
	as, _ := Roots(p)
	bs, _ := Roots(q)
	want(t, "roots", len(as)*len(bs), 16)
	for _, a := range as {
		for _, b := range bs {
			wantMade(t, a, b, 60)
		}
		for _, b := range as {
			wantMade(t, a, b, 60)
		}
	}
}

// What other roots make is very near to what a and b make.
func TestMadeOfCloseNumbers(t *testing.T) {
	p, q := alg("-2 0 1", 1), alg("-2"+nulls(59)+"1 0 1"+nulls(60), 0)
	for i := range 2 {
		p.K, q.K = i, 1-i
		sum := made(t, Add, p, q)
		want(t, "degree", len(sum.F), 5)
		// The root that is q's is farther from 0.
		want(t, "below or above 0", sum.K, 2-i)
		wantMade(t, p, q, 95)
	}
	// Two roots near 1, and two near -1.
	for _, square := range []poly.Poly{of(1, -2, 1), of(1, 2, 1)} {
		l, f := Roots(square.Sub(poly.Of(tenth(60).Mul(whole(2)))))
		want(t, "fault", f, none)
		for _, a := range l {
			for _, b := range []api.Alg{alg("-3 0 1", 0), alg("-3 0 1", 1), alg("-1 -1 1", 0), alg("-7 3", 0)} {
				wantMade(t, a, b, 95)
			}
		}
	}
}

// Real numbers are a field.
func TestField(t *testing.T) {
	d := draw{10}
	zero, one := Of(num.Frac{}), Of(whole(1))
	for range 60 {
		a, b, c := d.alg(2, 9), d.alg(2, 9), d.alg(2, 9)
		sum, product := made(t, Add, a, b), made(t, Mul, a, b)
		want(t, "a + b", told(made(t, Add, b, a)), told(sum))
		want(t, "a b", told(made(t, Mul, b, a)), told(product))
		want(t, "a + b - b", told(made(t, Add, sum, opposite(t, b))), told(a))
		want(t, "a + b + c", told(made(t, Add, sum, c)), told(made(t, Add, a, made(t, Add, b, c))))
		want(t, "a b c", told(made(t, Mul, product, c)), told(made(t, Mul, a, made(t, Mul, b, c))))
		want(t, "(a + b) c", told(made(t, Mul, sum, c)), told(made(t, Add, made(t, Mul, a, c), made(t, Mul, b, c))))
		want(t, "a + 0", told(made(t, Add, a, zero)), told(a))
		want(t, "a 1", told(made(t, Mul, a, one)), told(a))
		want(t, "a 0", told(made(t, Mul, a, zero)), told(zero))
		want(t, "a - a", told(made(t, Add, a, opposite(t, a))), told(zero))
		want(t, "- - a", told(opposite(t, opposite(t, a))), told(a))
		if s, _ := Sign(of(0, 1), b); s != 0 {
			want(t, "b over b", told(made(t, Mul, b, over(t, b))), told(one))
			want(t, "a b over b", told(made(t, Mul, product, over(t, b))), told(a))
			want(t, "1 over 1 over b", told(over(t, over(t, b))), told(b))
		}
	}
}

// A sum of squares is 0 only where all of them are; an order stays, if a number is added to both sides, and turns, if
// both are taken below 0 times.
func TestOrder(t *testing.T) {
	d := draw{11}
	x := of(0, 1)
	for range 60 {
		a, b, c := d.alg(2, 4), d.alg(2, 4), d.alg(2, 4)
		sa, _ := Sign(x, a)
		sb, _ := Sign(x, b)
		sc, _ := Sign(x, c)
		squares := made(t, Add, made(t, Mul, a, a), made(t, Mul, b, b))
		s, _ := Sign(x, squares)
		want(t, "squares", s, max(sa*sa, sb*sb))
		order, _ := Cmp(a, b)
		wantCmp(t, made(t, Add, a, c), made(t, Add, b, c), order)
		wantCmp(t, made(t, Mul, a, c), made(t, Mul, b, c), order*sc)
		if sa*sb > 0 {
			wantCmp(t, over(t, a), over(t, b), -order)
		}
		wantCmp(t, opposite(t, a), opposite(t, b), -order)
	}
}

// Numbers with fractions: as fractions.
func TestFractions(t *testing.T) {
	d := draw{12}
	for range 200 {
		x, y := d.frac(), d.frac()
		a, b := Of(x), Of(y)
		want(t, "sum", told(made(t, Add, a, b)), told(Of(x.Add(y))))
		want(t, "product", told(made(t, Mul, a, b)), told(Of(x.Mul(y))))
		wantCmp(t, a, b, x.Cmp(y))
		if q, f := whole(1).Quo(x); f == none {
			want(t, "1 over it", told(over(t, a)), told(Of(q)))
		}
		p := d.poly(5, 9)
		wantSign(t, p, a, p.Eval(x).Sign())
	}
}

// The greatest degrees and the longest numbers: what is made of them is longer than what can be read.
func TestMadeOfLongNumbers(t *testing.T) {
	d := draw{13}
	for _, n := range []int{1, 2, 4} {
		var as []api.Alg
		for len(as) < 2 {
			cs := make([]num.Frac, n+1)
			for i := range cs {
				cs[i] = num.Whole(d.long(1000))
			}
			l, _ := Roots(poly.Of(cs...))
			if len(l) > 0 && len(l[0].F) == n+1 {
				as = append(as, l[d.below(len(l))])
			}
		}
		sum, product := made(t, Add, as[0], as[1]), made(t, Mul, as[0], as[1])
		want(t, "degree of the sum", len(sum.F), n*n+1)
		want(t, "degree of the product", len(product.F), n*n+1)
		want(t, "long", len(product.F[0]) > 1500, true)
		_, f := Neg(sum)
		want(t, "too long", f.Code, api.ErrLong)
		a0, a1 := bracket(t, as[0], 100)
		b0, b1 := bracket(t, as[1], 100)
		lo, hi := a0.Add(b0), a1.Add(b1)
		if n < 4 {
			wantIn(t, "sum", sum, lo, hi)
			continue
		}
		// Sturm's chain takes too long here.
		p := readLong(sum.F)
		wantCount(t, p, whole(-1000000), lo, sum.K)
		wantCount(t, p, lo, hi, 1)
	}
}
