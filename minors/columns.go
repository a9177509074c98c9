package minors

import (
	"math/bits"

	"radicand/num"
	"radicand/terms"
)

// A set of columns: column c is in it, if bit c is 1.
type columns uint64

const mostColumns = 64

// front is the first n columns.
func front(n int) columns { return 1<<n - 1 }

// behind is how many columns of the set stand behind column c, which is not in it.
func (s columns) behind(c int) int { return bits.OnesCount64(uint64(s >> c)) }

// byColumns is what All tells, and whether it took no more than so many steps: row by row, the determinants of all
// rows so far and of each set of as many columns. The rows are taken in an order in which those that the determinants
// of higher numbers have come first: so these are met on the way.
func (x pair) byColumns(steps int) (map[int]terms.Poly, bool) {
	p, q := x.degrees()
	if p+q-2*x.least > mostColumns {
		return nil, false
	}
	found := map[int]terms.Poly{}
	minors := map[columns]terms.Poly{0: terms.Number(num.Whole(num.Of(1)))}
	for j := max(p, q); j >= x.least; j-- {
		for _, r := range x.rows(j) {
			if minors, steps = r.below(minors, steps); steps < 0 {
				return nil, false
			}
		}
		if j > x.most {
			continue
		}
		if m := minors[front(p+q-2*j)]; m.Len() > 0 {
			found[j] = m
		}
	}
	return found, true
}

// A row of a determinant is the coefficients of a polynomial, the highest in the column first.
type row struct {
	of     []terms.Poly
	first  int
	end    int     // how many columns there are
	due    columns // in these no row behind has something
	passed int     // how many of the rows so far come behind it in the determinant
}

// rows is what the determinant number j has more than that of the number above it: one row of a, one of b, if they
// have come to rows of both.
func (x pair) rows(j int) []row {
	p, q := x.degrees()
	end := p + q - 2*x.least
	// begin is where the first row of the polynomial that has n rows in all from the number j down begins.
	begin := func(n, j int) int {
		if min(j, n-1) < x.least {
			return end
		}
		return max(0, n-1-j)
	}
	var l []row
	if j < q {
		due := front(min(begin(q, j-1), begin(p, j)))
		l = append(l, row{x.a, q - 1 - j, end, due, max(0, p-1-j)})
	}
	if j < p {
		due := front(min(begin(q, j-1), begin(p, j-1)))
		l = append(l, row{x.b, p - 1 - j, end, due, 0})
	}
	return l
}

// below is the determinants with the row below the others, of all sets of columns with which there is a way on, and
// how many of the steps are left; none, if they were not enough.
func (r row) below(minors map[columns]terms.Poly, steps int) (map[columns]terms.Poly, int) {
	longer := map[columns]terms.Poly{}
	for set, m := range minors {
		for i, c := range r.of {
			column := r.first + len(r.of) - 1 - i
			with := set | 1<<column
			if column >= r.end || with == set || with&r.due != r.due {
				continue
			}
			if steps -= m.Len() * c.Len(); steps < 0 {
				return nil, steps
			}
			join := terms.Poly.Add
			if (set.behind(column)+r.passed)%2 == 1 {
				join = terms.Poly.Sub
			}
			longer[with] = join(longer[with], m.Mul(c))
		}
	}
	return longer, steps
}
