package tower

import (
	"slices"
	"testing"

	"radicand/ball"
	"radicand/num"
	"radicand/terms"
)

// Degrees, and heights times these, of fields that some points make.
func TestFields(t *testing.T) {
	for _, c := range []struct {
		pt, p   string
		degree  int
		heights [3]int
		gap     int
	}{
		// The root of two: half of what 3 has (two bits); the degree makes the other half good.
		{"1: 1 2, -2 0", "5 0", 1, [3]int{}, 3},
		{"1: 1 2, -2 0", "3 1, -4 0", 2, [3]int{2}, 2 + 2*3},
		{"1: 1 2, -2 0", "3 5, -4 0", 2, [3]int{2}, 5*2 + 2*3},
		{"1: 1 2, -2 0; 1: 1 0 2, -1 1 0", "1 0 1, -1 1 0", 4, [3]int{4, 4}, 4 + 4 + 4},
		{"1: 1 2, -2 0; 1: 1 0 2, -1 1 0", "3 1, -4 0", 2, [3]int{2}, 2 + 2*3},
		{"1: 1 2, -2 0; 1: 1 0 2, -3 0 0", "7 0 1", 2, [3]int{0, 2}, 2 + 2*3},
		{"1: 1 2, -2 0; 1: 1 0 2, -3 0 0", "7 1 1", 4, [3]int{4, 4}, 4 + 4 + 4*3},
		{"1: 1 2, -2 0; 1: 1 0 2, -3 0 0; 1: 1 0 0 2, -5 1 0 0", "1 0 0 1", 4, [3]int{4, 0, 8}, 8},
		{"1: 1 3, -3 1, 1 0; 0: 1 0 1, -7 2 0", "1 0 1, 1 1 0", 3, [3]int{3, 15}, 3 + 15 + 3},
		// (y - x)^2 has one root; so has y^2 - 2 x y + 2.
		{"1: 1 2, -2 0; 0: 1 0 2, -2 1 1, 2 0 0", "1 0 1", 2, [3]int{2, 8}, 8},
		// (x^2 - 2) y^3 + 6 y - 6 x is y - x there, but for a number.
		{"1: 1 2, -2 0; 0: 1 2 3, -2 0 3, 6 0 1, -6 1 0", "1 0 1", 2, [3]int{2, 4}, 4},
		// Factors count alone, and fractions do not.
		{"3: 1 4, -5 2, 6 0", "1 1", 2, [3]int{2}, 2}, {"0: 2 1, -1 0; 1: 1 0 2, -1 1 0", "1 0 1", 2, [3]int{0, 2}, 2},
	} {
		pt, p := made(t, c.pt), read(c.p)
		f := pt.field(sizeOf(p).degrees)
		want(t, c.pt+" | "+c.p+": degree", f.degree, c.degree)
		for v := range 3 {
			want(t, c.pt+" | "+c.p+": height", f.heights[v], c.heights[v])
		}
		want(t, c.pt+" | "+c.p+": gap", pt.gap(sizeOf(p)), c.gap)
	}
}

func TestSizes(t *testing.T) {
	for _, c := range []struct {
		p    string
		bits int
	}{{"1 0", 0}, {"2 0", 1}, {"-1 3, 1 0", 1}, {"3 0", 2}, {"-4 0", 2}, {"5 0", 3}, {"1 1, -1 2, 1 0", 2}, {"100 1, -28 0", 7}, {"100 1, -29 0", 8}} {
		want(t, c.p, sizeOf(read(c.p)).bits, c.bits)
	}
	want(t, "of all", sizeOfAll([]terms.Poly{read("1 2"), {}, read("-1 0 3, 2 1")}), size{terms.Power{2, 3}, 2})
}

// What is not 0 is not as near to 0 as the gap; what is 0 is seen to be.
func TestGaps(t *testing.T) {
	d := &draw{1}
	looks := 0
	for range 300 {
		pt := d.point(1 + d.below(3))
		for range 4 {
			p := d.poly(len(pt), 1+d.below(4), 2, 9)
			if s := pt.Sign(p); s != 0 {
				wantApart(t, pt, p, s)
				looks++
			}
			// Numbers that are nearly what the last coordinate is.
			v, n := len(pt)-1, 3+d.below(30)
			times, _ := num.Of(10).Pow(n)
			q := less(v, times, pt.Floor(v, n))
			if s := pt.Sign(q); s != 0 {
				want(t, "above its floor", s, 1)
				wantApart(t, pt, q, 1)
				wantApart(t, pt, q.Mul(q).Mul(q), 1)
			}
		}
	}
	want(t, "looks", looks > 400, true)
}

// wantApart looks whether p, which has that sign at pt, is no nearer to 0 than its gap allows.
func wantApart(t *testing.T, pt Point, p terms.Poly, s int) {
	t.Helper()
	_, p = pt.fixed(p).Primitive()
	if p.IsNumber() {
		return
	}
	gap := pt.gap(sizeOf(p))
	r := ball.Of(gap + 400)
	b := pt.look(r).value(p)
	want(t, "seen", b.Sign()*b.Sign(), 1)
	want(t, "nearer than the gap", r.Below(b, gap), false)
}

// Gaps of determinants: the height of the coefficients as often as they stand in each product, and the bits of the sum of
// the products.
func TestGapOfLine(t *testing.T) {
	pt := made(t, "1: 1 2, -2 0")
	for _, c := range []struct {
		p      string
		n, gap int
	}{{"1 0 2, -1 1 0", 2, 2*4 + 2*3}, {"1 0 2, -1 1 0", 1, 2 * 2}, {"1 0 3, -1 1 1, 1 0 0", 3, 4*6 + 2*7}, {"1 0 3, -1 1 1, 1 0 0", 2, 2*6 + 2*5}, {"1 0 5, -1 1 0", 5, 8*4 + 2*16}} {
		rs, _ := pt.Roots(read(c.p))
		want(t, c.p, rs[0].line.gap(c.n), c.gap)
	}
}

// determinant is that of the rows, by its definition.
func determinant(r ball.Rule, rows [][]ball.Ball) ball.Ball {
	if len(rows) == 0 {
		return r.Whole(num.Of(1))
	}
	var sum ball.Ball
	for j, a := range rows[0] {
		var rest [][]ball.Ball
		for _, row := range rows[1:] {
			rest = append(rest, append(slices.Clone(row[:j]), row[j+1:]...))
		}
		sum = sum.Add(r.Mul(a, determinant(r, rest)).Times(num.Of(1 - 2*(j%2))))
	}
	return sum
}

// The gap of a discriminant, of lines whose roots stand near together.
func TestGapsOfDiscriminants(t *testing.T) {
	d := &draw{2}
	seen := 0
	for range 700 {
		pt := d.point(1 + d.below(2))
		n := len(pt)
		// A square, and what is nearly 0.
		times, _ := num.Of(10).Pow(d.below(12))
		a := d.poly(n+1, 3, 1, 3)
		p := a.Mul(a).Add(less(n-1, times, pt.Floor(n-1, d.below(12))))
		rs, zero := pt.Roots(p)
		if zero || len(rs) == 0 || rs[0].line == nil || rs[0].line.exact != nil {
			continue
		}
		l := rs[0].line
		for range 12 {
			if l.known {
				break
			}
			l.count(ball.Of(4096))
		}
		want(t, "known", l.known, true)
		if l.distinct < 2 {
			continue
		}
		seen++
		r := ball.Of(l.gap(l.distinct) + 2000)
		cs := l.under.look(r).values(l.cs)
		sums, ok := r.Sums(cs, 2*l.distinct-2)
		want(t, "told", ok, true)
		det := determinant(r, ball.Hankel(sums, l.distinct, l.distinct))
		for range 2*l.distinct - 2 {
			det = r.Mul(det, cs[l.degree()])
		}
		want(t, "seen", det.Sign() != 0, true)
		want(t, "nearer than the gap", r.Below(det, l.gap(l.distinct)), false)
	}
	want(t, "lines", seen > 60, true)
}

func TestMore(t *testing.T) {
	r := ball.Of(64)
	b := r.Whole(num.Of(0)).Add(r.Mul(r.Whole(num.Of(3)), r.Whole(num.Of(0))))
	// It is off by 2 parts, two bits.
	want(t, "four times as many", more(r, b, 1000), 256)
	want(t, "enough", more(r, b, 200), 204)
	want(t, "some more at least", more(r, b, 64), 128)
	want(t, "some more at least", more(r, b, 10), 128)
}
