package roots

import (
	"testing"

	"radicand/num"
	"radicand/poly"
	"radicand/whole"
)

func TestFloorOfRootOfTwo(t *testing.T) {
	rs := All(of(-2, 0, 1))
	for _, k := range []int{0, 1, 10, 333, 20, 5000, 5001, 0} {
		square := whole.TwoTo(2*k + 1)
		low, _ := square.Root(2)
		want(t, "above 0", rs[1].Floor(k).Text(), low.Text())
		want(t, "below 0", rs[0].Floor(k).Text(), next(low).Neg().Text())
	}
}

// The number of steps grows with the bits of the bits.
func TestClosingInIsQuick(t *testing.T) {
	for _, p := range []poly.Poly{of(-2, 0, 1), of(-5, 1, 0, 0, 0, 0, 0, 1), of(1, -1<<50, 1), poly.Of(num.Whole(whole.TwoTo(3001).Neg()), number(1), number(1))} {
		for _, r := range All(p) {
			n := 0
			for r.k < 100000 {
				r.step(r.leap)
				n++
			}
			want(t, told(p), n < 40, true)
		}
	}
}

func TestSign(t *testing.T) {
	// Of a + b times the root of two: that of a, but of b, if a^2 is below 2 b^2.
	root := func() *Root { return All(of(-2, 0, 1))[1] }
	d := draw{5}
	for range 500 {
		a, b := d.near0(50), d.near0(50)
		if a == 0 && b == 0 {
			continue
		}
		s := num.Of(a).Sign()
		if a*a < 2*b*b {
			s = num.Of(b).Sign()
		}
		want(t, "sign", root().Sign(of(a, b)), s)
		want(t, "of a fraction", root().Sign(of(a, b).Scale(over(num.Of(-3), num.Of(7)))), -s)
		want(t, "times x", root().Sign(of(0, a, b)), s)
	}
	// Closer and closer to it: p/q with p^2 - 2 q^2 = 1 or -1, in turns.
	p, q := num.Of(1), num.Of(1)
	for i := range 500 {
		want(t, "near", root().Sign(poly.Of(num.Whole(p.Neg()), num.Whole(q))), 1-i%2*2)
		want(t, "against", root().Against(over(p, q)), 1-i%2*2)
		p, q = p.Add(q).Add(q), p.Add(q)
	}
	want(t, "of a number", root().Sign(of(-3)), -1)
}

// What is near 0 at a root far from 0 and near to it.
func TestSignOfLongNumbers(t *testing.T) {
	far, small := whole.TwoTo(3000), poly.Of(num.Whole(num.Of(-2)), number(0), num.Whole(whole.TwoTo(6000)))
	rs := All(small)
	want(t, "number of roots", len(rs), 2)
	want(t, "x^9", rs[0].Sign(power(9)), -1)
	want(t, "x^10", rs[0].Sign(power(10)), 1)
	want(t, "x - 1/far", rs[1].Sign(poly.Of(number(-1), num.Whole(far))), 1)
	want(t, "x - 2/far", rs[1].Sign(poly.Of(number(-2), num.Whole(far))), -1)
	rs = All(poly.Of(num.Whole(whole.TwoTo(6001).Neg()), number(0), number(1)))
	want(t, "x^9", rs[0].Sign(power(9)), -1)
	want(t, "x^200", rs[0].Sign(power(200).Sub(of(1))), 1)
	want(t, "x - far", rs[1].Sign(poly.Of(num.Whole(far.Neg()), number(1))), 1)
	want(t, "far - x", rs[1].Sign(poly.Of(num.Whole(far), number(-1))), -1)
}

func TestCmp(t *testing.T) {
	d := draw{6}
	for range 200 {
		// The roots of a and b, and of what is next to a square.
		a, b := 2+d.below(1000000), 2+d.below(1000000)
		if a == b {
			continue
		}
		want(t, "roots of numbers", Cmp(All(with2(a))[1], All(with2(b))[1]), num.Of(a).Cmp(num.Of(b)))
		want(t, "and their opposites", Cmp(All(with2(a))[0], All(with2(b))[0]), num.Of(b).Cmp(num.Of(a)))
	}
	for _, k := range []int{1, 40, 700} {
		// The root of 4^k + 1 is above 2^k by some 1 over 2^(k + 1); the root of 4^k + 2 by twice that.
		one := All(poly.Of(num.Whole(next(whole.TwoTo(2*k)).Neg()), number(0), number(1)))[1]
		two := All(poly.Of(num.Whole(next(next(whole.TwoTo(2*k))).Neg()), number(0), number(1)))[1]
		whole := All(poly.Of(num.Whole(whole.TwoTo(k).Neg()), number(1)))[0]
		want(t, "one and two", Cmp(one, two), -1)
		want(t, "two and one", Cmp(two, one), 1)
		want(t, "whole and one", Cmp(whole, one), -1)
		want(t, "two and whole", Cmp(two, whole), 1)
	}
}

// with2 is x^2 - a.
func with2(a int) poly.Poly { return of(-a, 0, 1) }

func TestUp(t *testing.T) {
	for _, c := range [][3]int{{0, 3, 0}, {1, 3, 1}, {3, 3, 1}, {4, 3, 2}, {-1, 3, 0}, {-3, 3, -1}, {-4, 3, -1}, {-5, 2, -2}} {
		want(t, "up", up(c[0], c[1]), c[2])
	}
}
