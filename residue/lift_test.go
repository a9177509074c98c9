package residue

import (
	"testing"

	"radicand/num"
)

// Integers up to half of the product of the primes come back, and no others.
func TestLiftTellsNumbers(t *testing.T) {
	d := draw{6}
	for n := 1; n < 12; n++ {
		var l Lift
		want(t, "product of none", l.Product().Text(), "1")
		want(t, "width of none", l.Width(), 0)
		want(t, "numbers of none", len(l.Numbers()), 0)
		half := num.Of(1)
		for _, f := range fields(n) {
			half = half.Mul(f.number())
		}
		half, _, _ = half.Div(num.Of(2))
		ns := []num.Int{{}, num.Of(1), num.Of(-1), half, half.Neg(), num.Of(d.below(1 << 60))}
		for _, f := range fields(n) {
			l.Add(f, f.List(ns))
		}
		want(t, "length", l.Len(), n)
		want(t, "width", l.Width(), len(ns))
		want(t, "product", l.Product().Cmp(half.Add(half).Add(num.Of(1))), 0)
		for i, got := range l.Numbers() {
			want(t, "number", got.Text(), ns[i].Text())
		}
	}
	var l Lift
	f := First()
	above, _, _ := f.number().Div(num.Of(2))
	above = above.Add(num.Of(1))
	l.Add(f, []uint64{f.Of(above)})
	want(t, "number above half", l.Numbers()[0].Text(), above.Sub(f.number()).Text())
}

func TestLiftOfManyPrimes(t *testing.T) {
	var l Lift
	n := num.Of(1)
	for i, f := range fields(150) {
		if i < 149 {
			n = n.Mul(num.Of(int(f.prime) - 2*i*i))
		}
	}
	for _, f := range fields(150) {
		l.Add(f, f.List([]num.Int{n, n.Neg()}))
	}
	got := l.Numbers()
	want(t, "number", got[0].Cmp(n), 0)
	want(t, "opposite", got[1].Cmp(n.Neg()), 0)
}
