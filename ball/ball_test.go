package ball

import (
	"math/big"
	"testing"

	"radicand/num"
)

func rules() []Rule { return []Rule{Of(0), Of(3), Of(16), Of(64), Of(200)} }

// What is told of balls is told of all numbers in them.
func TestReckoning(t *testing.T) {
	d := &draw{1}
	for range 4000 {
		for _, r := range rules() {
			x, y := d.frac(), d.frac()
			a, b := d.around(r, x, 1+d.below(20)), d.around(r, y, 1+d.below(20))
			wantIn(t, "made", r, a, x)
			wantIn(t, "sum", r, a.Add(b), new(big.Rat).Add(x, y))
			wantIn(t, "difference", r, a.Sub(b), new(big.Rat).Sub(x, y))
			wantIn(t, "product", r, r.Mul(a, b), new(big.Rat).Mul(x, y))
			wantIn(t, "times -3", r, a.Times(num.Of(-3)), new(big.Rat).Mul(x, big.NewRat(-3, 1)))
			if q, ok := r.Quo(a, b); ok {
				wantIn(t, "quotient", r, q, new(big.Rat).Quo(x, y))
			} else {
				want(t, "refused", b.Sign(), 0)
			}
			if s := a.Sign(); s != 0 {
				want(t, "sign", s, x.Sign())
			}
			for _, old := range rules() {
				c := d.around(old, x, 5)
				wantIn(t, "of another rule", r, r.From(old, c), x)
			}
			n := d.below(80)
			if r.Below(a, n) {
				want(t, "below", new(big.Rat).Abs(x).Cmp(big.NewRat(1, 1).Quo(big.NewRat(1, 1), new(big.Rat).SetInt(new(big.Int).Lsh(big.NewInt(1), uint(n))))), -1)
			}
		}
	}
}

// Balls do not get much wider than they must.
func TestNoWider(t *testing.T) {
	r := Of(64)
	exact := func(n int) Ball { return r.Whole(num.Of(n)) }
	for _, c := range []struct {
		what string
		a    Ball
		most int
	}{
		{"whole", exact(5), 0}, {"sum", exact(5).Add(exact(6)), 0}, {"product", r.Mul(exact(5), exact(-6)), 2}, {"finer", r.From(Of(10), Of(10).Whole(num.Of(3))), 0},
		{"coarser", r.From(Of(100), Of(100).Whole(num.Of(3))), 2},
	} {
		want(t, c.what, c.a.rad.Cmp(num.Of(c.most)) <= 0, true)
	}
	q, _ := r.Quo(exact(5), exact(-3))
	want(t, "quotient", q.rad.Cmp(num.Of(2)) <= 0, true)
	third, _ := r.Quo(exact(1), exact(3))
	want(t, "product of quotients", r.Mul(third, third).rad.Cmp(num.Of(5)) <= 0, true)
	_, ok := r.Quo(exact(5), exact(0))
	want(t, "by 0", ok, false)
	_, ok = r.Quo(exact(5), Ball{num.Of(3), num.Of(3)})
	want(t, "by what may be 0", ok, false)
	_, ok = r.Quo(exact(5), Ball{num.Of(-4), num.Of(3)})
	want(t, "by what is not 0", ok, true)
}

func TestSigns(t *testing.T) {
	for _, c := range []struct{ mid, rad, sign int }{{0, 0, 0}, {1, 0, 1}, {-1, 0, -1}, {5, 5, 0}, {5, 4, 1}, {-5, 4, -1}, {-5, 5, 0}, {-5, 6, 0}, {0, 3, 0}} {
		want(t, "sign", Ball{num.Of(c.mid), num.Of(c.rad)}.Sign(), c.sign)
	}
	for _, c := range []struct {
		mid, rad int
		even     bool
	}{{3, 1, true}, {-3, 1, true}, {3, 2, false}, {0, 0, false}, {1, 0, true}, {1, 1, false}, {30, 10, true}, {30, 11, false}} {
		want(t, "even", Ball{num.Of(c.mid), num.Of(c.rad)}.Even(), c.even)
	}
	r := Of(4)
	for _, c := range []struct {
		mid, rad, n int
		below       bool
	}{{0, 0, 4, true}, {0, 0, 5, false}, {1, 0, 4, false}, {1, 0, 3, true}, {1, 1, 3, false}, {-1, 0, 3, true}, {-7, 8, 0, true}, {-8, 8, 0, false}, {100, 0, -3, true}, {128, 0, -3, false}} {
		want(t, "below", r.Below(Ball{num.Of(c.mid), num.Of(c.rad)}, c.n), c.below)
	}
	a, b := Ball{num.Of(100), num.Of(10)}, Ball{num.Of(-10), num.Of(2)}
	want(t, "blunter", a.Blunter(b), false)
	want(t, "blunter", b.Blunter(a), true)
	want(t, "lost", Ball{num.Of(-3), num.Of(5)}.Lost(), 4)
}

func TestSpans(t *testing.T) {
	d := &draw{2}
	for range 2000 {
		s := Span{num.Of(d.below(2000) - 1000), num.Int{}, d.below(12)}
		s.High = s.Low.Add(num.Of(d.below(40)))
		for _, bits := range []int{0, 3, 12, 30} {
			r := Of(bits)
			a := r.Ball(s)
			wantIn(t, "low", r, a, parts(s.Low, s.Bits))
			wantIn(t, "high", r, a, parts(s.High, s.Bits))
			wantIn(t, "middle", r, a, parts(a.Middle().mid, bits))
			want(t, "middle alone", a.Middle().rad.Sign(), 0)
			if bits >= s.Bits {
				f := s.Finer(bits)
				want(t, "finer", parts(f.Low, bits).Cmp(parts(s.Low, s.Bits)) == 0 && parts(f.High, bits).Cmp(parts(s.High, s.Bits)) == 0, true)
				// What is in both is within.
				x := new(big.Rat).Add(parts(s.Low, s.Bits), new(big.Rat).Mul(new(big.Rat).Sub(parts(s.High, s.Bits), parts(s.Low, s.Bits)), big.NewRat(int64(d.below(5)), 4)))
				w := r.Within(s, d.around(r, x, 1+d.below(8)))
				want(t, "within", parts(w.Low, bits).Cmp(x) <= 0 && parts(w.High, bits).Cmp(x) >= 0, true)
				want(t, "no more than it was", parts(w.Low, bits).Cmp(parts(s.Low, s.Bits)) >= 0 && parts(w.High, bits).Cmp(parts(s.High, s.Bits)) <= 0, true)
			}
		}
		if s.Low.Cmp(s.High) != 0 {
			n := s.Narrow()
			long := new(big.Rat).Sub(parts(s.High, s.Bits), parts(s.Low, s.Bits))
			unit := new(big.Rat).SetInt(new(big.Int).Lsh(big.NewInt(1), uint(n+20)))
			long.Mul(long, unit)
			want(t, "narrow", long.Cmp(big.NewRat(1<<20, 1)) < 0 && long.Cmp(big.NewRat(1<<19, 1)) >= 0, true)
		}
	}
	want(t, "a number alone", Span{num.Of(5), num.Of(5), 2}.Narrow() > 1<<60, true)
}
