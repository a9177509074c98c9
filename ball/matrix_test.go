package ball

import (
	"math/big"
	"slices"
	"testing"

	"radicand/num"
)

// product is the polynomial with these roots and that last coefficient.
func product(lead *big.Rat, roots []*big.Rat) []*big.Rat {
	p := []*big.Rat{lead}
	for _, x := range roots {
		q := make([]*big.Rat, len(p)+1)
		for i := range q {
			q[i] = new(big.Rat)
			if i > 0 {
				q[i].Add(q[i], p[i-1])
			}
			if i < len(p) {
				q[i].Sub(q[i], new(big.Rat).Mul(x, p[i]))
			}
		}
		p = q
	}
	return p
}

func (d *draw) aroundAll(r Rule, xs []*big.Rat, wide int) []Ball {
	l := make([]Ball, len(xs))
	for i, x := range xs {
		l[i] = d.around(r, x, wide)
	}
	return l
}

func (d *draw) small() *big.Rat { return big.NewRat(int64(d.below(13)-6), int64(1+d.below(3))) }

func TestSums(t *testing.T) {
	d, r := &draw{3}, Of(100)
	for range 500 {
		var roots []*big.Rat
		for range d.below(6) {
			roots = append(roots, d.small())
		}
		lead := d.small()
		cs := d.aroundAll(r, product(lead, roots), 3)
		n := d.below(9)
		sums, ok := r.Sums(cs, n)
		if lead.Sign() == 0 && len(roots) > 0 {
			want(t, "last coefficient 0", ok, false)
			continue
		}
		want(t, "told", ok, true)
		want(t, "so many", len(sums), n+1)
		for k, s := range sums {
			all := new(big.Rat)
			for _, x := range roots {
				p := big.NewRat(1, 1)
				for range k {
					p.Mul(p, x)
				}
				all.Add(all, p)
			}
			wantIn(t, "sum", r, s, all)
			want(t, "well known", s.rad.Cmp(num.Of(1<<60)) < 0, true)
		}
	}
}

// determinant is that of rows, by its definition.
func determinant(rows [][]*big.Rat) *big.Rat {
	if len(rows) == 0 {
		return big.NewRat(1, 1)
	}
	sum := new(big.Rat)
	for j, x := range rows[0] {
		var rest [][]*big.Rat
		for _, row := range rows[1:] {
			rest = append(rest, append(slices.Clone(row[:j]), row[j+1:]...))
		}
		part := new(big.Rat).Mul(x, determinant(rest))
		if j%2 == 1 {
			part.Neg(part)
		}
		sum.Add(sum, part)
	}
	return sum
}

func (d *draw) rows(n, columns int) [][]*big.Rat {
	rows := make([][]*big.Rat, n)
	for i := range rows {
		for range columns {
			rows[i] = append(rows[i], d.small())
		}
	}
	// Sometimes one row hangs on others.
	if n > 1 && d.below(2) == 0 {
		i, j := d.below(n), d.below(n)
		for k := range rows[i] {
			rows[i][k] = new(big.Rat).Mul(rows[j][k], big.NewRat(2, 3))
		}
	}
	return rows
}

// rank is that of rows, by the plainest way.
func rank(rows [][]*big.Rat) int {
	n := 0
	for c := 0; len(rows) > 0 && c < len(rows[0]); c++ {
		p := slices.IndexFunc(rows, func(row []*big.Rat) bool { return row[c].Sign() != 0 })
		if p < 0 {
			continue
		}
		n++
		pivot := rows[p]
		rows = append(slices.Clone(rows[:p]), rows[p+1:]...)
		for i, row := range rows {
			rows[i] = slices.Clone(row)
			for j := range row {
				times := new(big.Rat).Quo(row[c], pivot[c])
				rows[i][j] = new(big.Rat).Sub(row[j], times.Mul(times, pivot[j]))
			}
		}
	}
	return n
}

func TestRank(t *testing.T) {
	d, r := &draw{4}, Of(80)
	for range 600 {
		n, columns := d.below(6), 1+d.below(6)
		rows := d.rows(n, columns)
		balls := make([][]Ball, n)
		for i, row := range rows {
			balls[i] = d.aroundAll(r, row, 3)
		}
		got, rest := r.Rank(balls)
		want(t, "rank", got, rank(rows))
		want(t, "rest", rest.Sign(), 0)
		want(t, "rest is nearly 0", r.Scale(rest) < -30, true)
		want(t, "nothing is left", got < min(n, columns) || rest.Lost() == 0, true)
	}
	// With few bits no rank is told that is too high; and what is left is not told to be less than it is.
	row := func(a, b, c, d int) [][]Ball {
		return [][]Ball{{{num.Of(a), num.Of(2)}, {num.Of(b), num.Of(2)}}, {{num.Of(c), num.Of(2)}, {num.Of(d), num.Of(2)}}}
	}
	for _, c := range []struct{ a, b, c, d, rank, least int }{{1, 1, 2, -2, 0, 4}, {8, 0, 0, 1, 1, 3}, {8, 0, 0, 7, 1, 9}, {80, 0, 0, 70, 2, 0}, {0, 8, 1, 0, 1, 3}, {8, 8, 8, 8, 1, 6}} {
		got, rest := Of(0).Rank(row(c.a, c.b, c.c, c.d))
		want(t, "rank", got, c.rank)
		want(t, "rest", rest.most().Cmp(num.Of(c.least)) >= 0, true)
	}
}

func TestLongest(t *testing.T) {
	a := Longest([][]Ball{{{num.Of(5), num.Of(1)}, {num.Of(-7), num.Of(2)}}, {{num.Of(14), num.Of(0)}, {}}})
	want(t, "longest", a.most().Text(), "15")
	none := Longest(nil)
	want(t, "of no rows", none.most().Text(), "0")
	want(t, "scale", Of(10).Scale(a), 4-10)
	want(t, "scale", Of(2).Scale(Ball{num.Of(-16), num.Int{}}), 5-2)
}

func TestSolve(t *testing.T) {
	d, r := &draw{5}, Of(80)
	for range 600 {
		n := d.below(5)
		rows := d.rows(n, n)
		balls := make([][]Ball, n)
		xs := make([]*big.Rat, n)
		for i := range xs {
			xs[i] = d.small()
		}
		for i, row := range rows {
			sum := new(big.Rat)
			for j, c := range row {
				sum.Add(sum, new(big.Rat).Mul(c, xs[j]))
			}
			balls[i] = d.aroundAll(r, append(slices.Clone(row), sum), 3)
		}
		got, ok := r.Solve(balls)
		want(t, "just one", ok, determinant(rows).Sign() != 0)
		for i, x := range got {
			wantIn(t, "number", r, x, xs[i])
			want(t, "well known", x.rad.Cmp(num.Of(1<<50)) < 0, true)
		}
	}
}

func TestHankel(t *testing.T) {
	var list []Ball
	for i := range 9 {
		list = append(list, Ball{mid: num.Of(i)})
	}
	m := Hankel(list, 4, 6)
	want(t, "rows", len(m), 4)
	for i, row := range m {
		want(t, "columns", len(row), 6)
		for j, a := range row {
			want(t, "entry", a.mid.Text(), num.Of(i+j).Text())
			row[j] = Ball{}
		}
	}
	for i, a := range list {
		want(t, "the list stays", a.mid.Text(), num.Of(i).Text())
	}
}

func TestValues(t *testing.T) {
	d, r := &draw{6}, Of(90)
	for range 500 {
		cs := make([]*big.Rat, 1+d.below(6))
		for i := range cs {
			cs[i] = d.small()
		}
		balls, x := d.aroundAll(r, cs, 3), d.small()
		v, s := new(big.Rat), new(big.Rat)
		for i := len(cs) - 1; i >= 0; i-- {
			v.Mul(v, x).Add(v, cs[i])
			if i > 0 {
				s.Mul(s, x).Add(s, new(big.Rat).Mul(cs[i], big.NewRat(int64(i), 1)))
			}
		}
		at := d.around(r, x, 1+d.below(30))
		wantIn(t, "value", r, r.Value(balls, at), v)
		wantIn(t, "slope", r, r.Value(Derive(balls), at), s)
		short := Of(40)
		wantIn(t, "value by few bits", short, short.Value(short.FromAll(r, balls), short.From(r, at)), v)
	}
}
