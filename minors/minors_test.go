package minors

import (
	"testing"

	"radicand/api"
	"radicand/num"
	"radicand/terms"
)

var kinds = []kind{
	{1, 3, 0, 4, 5}, {1, 9, 0, 8, 1000}, {1, 2, 0, 8, 1 << 40}, {2, 2, 3, 3, 1}, {2, 4, 2, 3, 5}, {2, 12, 3, 5, 9}, {2, 3, 1, 8, 2},
	{3, 3, 2, 3, 2}, {3, 8, 1, 4, 3}, {4, 4, 1, 3, 3}, {4, 6, 2, 2, 9}, {2, 1, 5, 5, 1}, {4, 2, 1, 1, 1},
}

// Both ways tell the determinants, as their values show.
func TestBothWays(t *testing.T) {
	d := draw{1}
	for i := range 2600 {
		x := d.pair(kinds[i%len(kinds)])
		found := byColumns(t, x)
		wantMinors(t, &d, x, found)
		wantAlike(t, "by the grid", gridOf(x).all(), found)
		wantAlike(t, "by one of both", All(x.a, x.b, x.least, x.most), found)
	}
}

// With a common divisor many are 0.
func TestOfMultiples(t *testing.T) {
	d := draw{2}
	for i := range 400 {
		k := kind{1 + i%3, 3, 2, 2, 3}
		x, c := d.pair(k), d.poly(k)
		if c.Len() == 0 {
			continue
		}
		times := func(l []terms.Poly) []terms.Poly { return joined(l, k.n-1).Mul(c).By(k.n - 1) }
		y := pair{a: times(x.a), b: times(x.b)}
		y.most = min(len(y.a), len(y.b)) - 1
		found := byColumns(t, y)
		wantMinors(t, &d, y, found)
		wantAlike(t, "by the grid", gridOf(y).all(), found)
		want(t, "0 below the common degree", numbers(found, c.Degree(k.n-1)-1), 0)
	}
}

// Great ones: as many rows as chapter 8 asks for, and more.
func TestGreat(t *testing.T) {
	d := draw{3}
	for _, k := range []kind{{2, 40, 6, 8, 9}, {2, 10, 40, 8, 1 << 60}, {3, 20, 4, 5, 9}, {3, 9, 3, 8, 9}, {4, 12, 2, 4, 5}, {2, 60, 3, 14, 9}, {1, 40, 0, 40, 99}} {
		x := d.pair(k)
		x.least, x.most = 0, min(len(x.a), len(x.b))-1
		wantMinors(t, &d, x, All(x.a, x.b, x.least, x.most))
	}
}

// There is no room for the points of some; these go by columns, however many steps that takes.
func TestWithoutRoom(t *testing.T) {
	d := draw{8}
	found := 0
	for found < 4 {
		x := d.pair(kind{4, 3 + found, 40, 8, 9})
		x.least, x.most = 0, min(len(x.a), len(x.b))-1
		if gridOf(x).steps() < 1<<60 {
			continue
		}
		found++
		wantMinors(t, &d, x, All(x.a, x.b, x.least, x.most))
	}
}

// More than the columns of a set.
func TestOfHighDegrees(t *testing.T) {
	d := draw{4}
	x := d.pair(kind{2, 30, 2, 45, 9})
	x.least, x.most = 0, 1
	want(t, "rows", len(x.a)+len(x.b) > mostColumns+2, true)
	_, done := x.byColumns(1 << 60)
	want(t, "by columns", done, false)
	wantMinors(t, &d, x, All(x.a, x.b, 0, 1))
	short := pair{[]terms.Poly{terms.Number(whole(2)), terms.Number(whole(3))}, append(make([]terms.Poly, 63), terms.Number(whole(-1))), 0, 0}
	wantMinors(t, &d, short, byColumns(t, short))
	short.b = append(make([]terms.Poly, 64), terms.Number(whole(-1)))
	_, done = short.byColumns(1 << 60)
	want(t, "one more", done, false)
	wantMinors(t, &d, short, All(short.a, short.b, 0, 0))
}

// With too few steps there is no answer; with as many as are taken there is.
func TestSteps(t *testing.T) {
	d := draw{5}
	for range 20 {
		x := d.pair(kind{2, 8, 2, 4, 9})
		few, enough := -1, 1<<20
		for enough-few > 1 {
			mid := (few + enough) / 2
			if _, done := x.byColumns(mid); done {
				enough = mid
			} else {
				few = mid
			}
		}
		for range 5 {
			_, done := x.byColumns(enough)
			want(t, "enough", done, true)
			_, done = x.byColumns(enough - 1)
			want(t, "too few", done, enough == 0)
		}
	}
}

// Long coefficients ask for many primes, and those of the higher numbers for fewer.
func TestLongCoefficients(t *testing.T) {
	d := draw{6}
	long := num.Of(7)
	for range 40 {
		long = long.Mul(num.Of(1<<50 + 1))
	}
	for i := range 12 {
		x := d.pair(kind{1 + i%2, 6, 2, 4, 9})
		x.least, x.most = 0, min(len(x.a), len(x.b))-1
		for _, l := range [][]terms.Poly{x.a, x.b} {
			for i, c := range l {
				l[i] = c.Scale(num.Whole(long)).Sub(c)
			}
		}
		found := byColumns(t, x)
		wantMinors(t, &d, x, found)
		wantAlike(t, "by the grid", gridOf(x).all(), found)
	}
}

// The greatest coefficients that rows of so many and so great ones can have are told by the primes: Hadamard's bound is
// met by rows that stand upright on one another.
func TestBoundIsMet(t *testing.T) {
	for _, size := range []int{1, 1 << 30, 1<<62 - 1} {
		c := terms.Number(whole(size))
		// The resultant of k x + k and k x - k is -2 k^2.
		x := pair{[]terms.Poly{c, c}, []terms.Poly{c.Scale(whole(-1)), c}, 0, 0}
		wanted := byColumns(t, x)
		wantAlike(t, "met", gridOf(x).all(), wanted)
		want(t, "met", wanted[0].Value(make([]num.Frac, api.MaxVars)).Text(), whole(-2*1).Mul(whole(size)).Mul(whole(size)).Text())
	}
}

// Psc is of fractions too: each row has what stands before its primitive part.
func TestPsc(t *testing.T) {
	d := draw{7}
	half, _ := num.Over(num.Of(-1), num.Of(2))
	third, _ := num.Over(num.Of(35), num.Of(3))
	for i := range 300 {
		x, v := d.pair(kinds[i%len(kinds)]), kinds[i%len(kinds)].n-1
		j := x.least
		found := byColumns(t, x)[j]
		got := Psc(joined(x.a, v).Scale(half), joined(x.b, v).Scale(third), v, j)
		want(t, "of fractions", terms.Cmp(got, found.Scale(power(half, len(x.b)-1-j).Mul(power(third, len(x.a)-1-j)))), 0)
	}
}
