package tower

import (
	"math/bits"

	"radicand/ball"
	"radicand/num"
	"radicand/roots"
	"radicand/terms"
)

// A line is a polynomial in one variable, above a point with whose coordinates its coefficients come to numbers.
type line struct {
	under    Point
	cs       []terms.Poly // the coefficients by that variable, with integers as theirs; the last is not 0 at the point
	size     size         // that of the whole polynomial, of which the variables of the point count
	distinct int          // how many roots it has, each once, also those that are not real; or more

	known   bool        // distinct is just how many
	squares bool        // there are fewer roots than the degree: what counts is the polynomial in which each is once
	bits    int         // those by which the real roots are told apart
	cells   []ball.Cell // what they are told apart by

	exact []*roots.Root // the real roots instead, if the coefficients are numbers at every point
}

// degree is the degree in the variable.
func (l *line) degree() int { return len(l.cs) - 1 }

// coefficients is the polynomial that counts, if it can be told by that rule.
func (l *line) coefficients(r ball.Rule) ([]ball.Ball, bool) {
	cs := l.under.look(r).values(l.cs)
	if !l.squares {
		return cs, true
	}
	return once(cs, l.distinct, r)
}

// once is the polynomial that is 0 once at each of the n roots of cs. The sums of their powers, each root as often as it
// is there, go on by it: so they tell it.
func once(cs []ball.Ball, n int, r ball.Rule) ([]ball.Ball, bool) {
	sums, ok := r.Sums(cs, 2*n-1)
	if !ok {
		return nil, false
	}
	rows := ball.Hankel(sums, n, n+1)
	for _, row := range rows {
		row[n] = row[n].Times(num.Of(-1))
	}
	cs, ok = r.Solve(rows)
	return append(cs, r.Whole(num.Of(1))), ok
}

// settle tells the real roots apart. To look for what is not there, as where a root is there twice, takes long: so it is
// looked by more than few bits only if it is known how many roots there are.
func (l *line) settle() {
	for n, few := firstLook, secondLook; ; {
		r := ball.Of(n)
		if l.known || n <= few {
			far, ok := l.tell(r)
			if ok {
				return
			}
			few = max(few, secondLook+far)
		}
		switch {
		case l.known:
			n *= 4
		case n < few:
			n = few
		default:
			n = l.count(r)
		}
	}
}

// tell tells the real roots apart, if it can by that rule; if not, it answers how many bits may be lost because roots
// may be far from each other.
func (l *line) tell(r ball.Rule) (int, bool) {
	cs, ok := l.coefficients(r)
	if !ok {
		return 0, false
	}
	cells, ok := ball.Cells(cs)
	if !ok {
		return l.degree() * max(0, ball.Bound(cs)), false
	}
	l.cells, l.bits = cells, r.Bits()
	return 0, true
}

// count looks for how many roots there are, by that rule, and answers by how many bits it is to be looked next. There are
// as many as the rank of the matrix is that the sums of the powers of all roots make.
func (l *line) count(r ball.Rule) int {
	cs := l.under.look(r).values(l.cs)
	d := l.degree()
	sums, ok := r.Sums(cs, 2*d-2)
	if !ok {
		return 4 * r.Bits()
	}
	rows := ball.Hankel(sums, d, d)
	// The longest row, also if what is left is taken from it.
	longest := ball.Longest(rows)
	rank, rest := r.Rank(rows)
	rest = rest.Times(num.Of(d))
	short := l.short(rank, r.Scale(cs[d]), r.Scale(longest.Add(rest)), r.Scale(rest))
	if short > 0 {
		return min(4*r.Bits(), r.Bits()+short+leastGuard)
	}
	l.known, l.squares, l.distinct = true, rank < d, rank
	return r.Bits()
}

// short is by how many bits less the rows that are left would have to be known to be nearly 0, so that the rank is surely
// no greater; 0 or less, if it is so. The last coefficient, the rows, and the rest are below 2 to those numbers.
//
// If it were greater, there would be an n above it so that the determinant of the first n rows and columns is not 0: it
// is a sum over all n of the roots, of how often each is there, times the squares of the distances between them. But each
// row is one of a matrix of that rank and a part of the rest; so the determinant is at most 2^n times as many rows as the
// rank tells, times the rest as often as there are others.
func (l *line) short(rank, last, row, rest int) int {
	short := 0
	for n := rank + 1; n <= l.degree(); n++ {
		many := n - rank
		most := l.gap(n) + (2*n-2)*last + n + rank*row
		short = max(short, rest+(most+many)/many)
	}
	return short
}

// gap is for the determinant of the first n rows and columns, times the last coefficient to the power 2 n - 2: the
// discriminant, or what stands there in its place, which is a polynomial in the coefficients.
func (l *line) gap(n int) int {
	f := l.under.field(l.size.degrees)
	return (2*n-2)*f.height(l.size) + f.degree*(n*bits.Len(uint(l.degree()-1))+1)
}

// slope is what the slopes of the polynomial cs are in a span, reckoned with so many bits or fewer, and told by rule r.
func slope(cs []ball.Ball, s ball.Span, r ball.Rule, n int) ball.Ball {
	short := r
	if n < r.Bits() {
		short = ball.Of(n)
		cs = short.FromAll(r, cs)
	}
	return r.From(short, short.Value(ball.Derive(cs), short.Ball(s)))
}

// begin is where a real root is, so that Newton's way leads to it from there.
func (l *line) begin(rank int) ball.Span {
	if l.exact != nil {
		return l.beginExact(rank)
	}
	n := l.bits
	for {
		if s, ok := l.beginCell(rank); ok {
			return s
		}
		// The cells that are told by more bits are no fewer and no more, and each has the same root.
		for told := false; !told; {
			n *= 2
			_, told = l.tell(ball.Of(n))
		}
	}
}

// beginCell is what begin tells, if the bits by which the roots are told apart are enough.
func (l *line) beginCell(rank int) (ball.Span, bool) {
	r := ball.Of(l.bits)
	cs, ok := l.coefficients(r)
	c := l.cells[rank]
	for ok {
		s := c.Span()
		if slope(cs, s, r, l.bits).Even() {
			return s, true
		}
		c, ok = c.Narrower()
	}
	return ball.Span{}, false
}

// beginExact is what begin tells of a root that is known.
func (l *line) beginExact(rank int) ball.Span {
	var s ball.Span
	roots.CloseIn(func(k int) bool {
		r := ball.Of(2 * k)
		cs, _ := l.coefficients(r)
		at := l.exact[rank].Floor(k)
		s = ball.Span{Low: at, High: at.Add(num.Of(1)), Bits: k}
		return slope(cs, s, r, 2*k).Even()
	})
	return s
}
