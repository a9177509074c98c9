package ball

import (
	"math/big"
	"slices"
	"testing"

	"radicand/num"
	"radicand/whole"
)

// in: is x between the ends of c?
func (c *Cell) in(x *big.Rat) bool {
	s := c.Span()
	return parts(s.Low, s.Bits).Cmp(x) < 0 && x.Cmp(parts(s.High, s.Bits)) < 0
}

// wantCells is a failure, if the cells have not just these roots, rising, each its own one.
func wantCells(t *testing.T, cs []Ball, roots []*big.Rat) {
	t.Helper()
	cells, ok := Cells(cs)
	want(t, "told", ok, true)
	want(t, "so many", len(cells), len(roots))
	for i, c := range cells {
		for j, x := range roots {
			want(t, "its own one", c.in(x), i == j)
		}
	}
}

// narrowed narrows a cell until it is shorter than 1 over 2^n, or can be no further; what it has is its root.
func narrowed(t *testing.T, c Cell, x *big.Rat, n int) {
	t.Helper()
	for looks := 0; c.Span().Narrow() < n; looks++ {
		want(t, "ends", looks < 10*n, true)
		d, ok := c.Narrower()
		if !ok {
			return
		}
		want(t, "narrower", d.in(x), true)
		want(t, "in it", parts(d.Span().Low, d.Span().Bits).Cmp(parts(c.Span().Low, c.Span().Bits)) >= 0, true)
		c = d
	}
}

func unlike(roots []*big.Rat) []*big.Rat {
	slices.SortFunc(roots, (*big.Rat).Cmp)
	return slices.CompactFunc(roots, func(a, b *big.Rat) bool { return a.Cmp(b) == 0 })
}

// pairs is a polynomial times some without real roots.
func (d *draw) pairs(p []*big.Rat) []*big.Rat {
	for range d.below(3) {
		// x^2 + a x + b, where a^2 < 4 b.
		a := int64(d.below(5) - 2)
		b := a*a/4 + 1 + int64(d.below(3))
		q := make([]*big.Rat, len(p)+2)
		for i := range q {
			q[i] = new(big.Rat)
			for j, c := range []int64{b, a, 1} {
				if k := i - j; k >= 0 && k < len(p) {
					q[i].Add(q[i], new(big.Rat).Mul(p[k], big.NewRat(c, 1)))
				}
			}
		}
		p = q
	}
	return p
}

func TestCells(t *testing.T) {
	d := &draw{7}
	for range 1500 {
		var roots []*big.Rat
		for range d.below(7) {
			x := d.small()
			if d.below(4) == 0 {
				x = d.frac()
			}
			roots = append(roots, x)
		}
		roots = unlike(roots)
		lead := d.small()
		if lead.Sign() == 0 {
			lead = big.NewRat(-7, 2)
		}
		p := d.pairs(product(lead, roots))
		// With enough bits it is told; with few bits what is told is so.
		r := Of(800)
		cs := d.aroundAll(r, p, 4)
		wantCells(t, cs, roots)
		cells, _ := Cells(cs)
		for i, c := range cells {
			narrowed(t, c, roots[i], 100)
		}
		for _, bits := range []int{0, 10, 30, 60, 120} {
			few := Of(bits)
			if cs := d.aroundAll(few, p, 1+d.below(4)); true {
				if _, ok := Cells(cs); ok {
					wantCells(t, cs, roots)
				}
			}
		}
	}
}

// Roots that are there twice are told by no bits.
func TestSquaresAreNotTold(t *testing.T) {
	d := &draw{8}
	for range 200 {
		var roots []*big.Rat
		for range d.below(3) {
			roots = append(roots, d.small())
		}
		x := d.small()
		p := d.pairs(product(big.NewRat(-3, 1), append(roots, x, x)))
		for _, bits := range []int{0, 60, 300} {
			_, ok := Cells(d.aroundAll(Of(bits), p, 2))
			want(t, "told", ok, false)
		}
	}
	// A last coefficient that may be 0.
	_, ok := Cells([]Ball{{mid: num.Of(5)}, {mid: num.Of(3), rad: num.Of(3)}})
	want(t, "told", ok, false)
}

// Roots that are near to each other, and far, are told, and narrowed, in few looks.
func TestFarAndNear(t *testing.T) {
	r := Of(30000)
	two := func(n int) *big.Rat {
		if n < 0 {
			return new(big.Rat).Inv(new(big.Rat).SetInt(toBig(whole.TwoTo(-n))))
		}
		return new(big.Rat).SetInt(toBig(whole.TwoTo(n)))
	}
	third := big.NewRat(1, 3)
	for _, roots := range [][]*big.Rat{
		{new(big.Rat), two(-3000)}, {new(big.Rat), two(-4000), two(3000)}, {third, new(big.Rat).Add(third, two(-3500))},
		{new(big.Rat).Neg(two(2000)), third, new(big.Rat).Add(third, two(-3000)), new(big.Rat).Add(third, two(-2000))},
		{new(big.Rat).Neg(two(3000)), new(big.Rat).Neg(two(-3000)), new(big.Rat), two(-3000), two(3000)},
	} {
		d := &draw{9}
		cs := d.aroundAll(r, product(big.NewRat(5, 1), roots), 2)
		wantCells(t, cs, roots)
		cells, _ := Cells(cs)
		for i, c := range cells {
			looks := 0
			for c.Span().Narrow() < 5000 {
				var ok bool
				c, ok = c.Narrower()
				want(t, "told", ok, true)
				want(t, "has it", c.in(roots[i]), true)
				looks++
			}
			want(t, "few looks", looks < 400, true)
		}
	}
}

func TestBound(t *testing.T) {
	d, r := &draw{10}, Of(300)
	for range 500 {
		var roots []*big.Rat
		most := new(big.Rat)
		for range 1 + d.below(6) {
			x := d.frac()
			roots = append(roots, x)
			if a := new(big.Rat).Abs(x); a.Cmp(most) > 0 {
				most = a
			}
		}
		b := Bound(d.aroundAll(r, product(big.NewRat(7, 3), roots), 2))
		far := new(big.Rat).SetInt(toBig(whole.TwoTo(max(b, 0))))
		far.Quo(far, new(big.Rat).SetInt(toBig(whole.TwoTo(max(-b, 0)))))
		want(t, "above all", far.Cmp(most), 1)
		far.Quo(far, big.NewRat(64, 1))
		want(t, "not far above", most.Sign() == 0 || far.Cmp(most) < 0, true)
	}
	want(t, "what may be 0", Bound([]Ball{{mid: num.Of(5)}, {}}), 0)
	want(t, "a number", Bound([]Ball{{mid: num.Of(5)}}), 0)
}
