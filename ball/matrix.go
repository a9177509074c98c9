package ball

import (
	"radicand/num"
)

// Sums is the sums of the powers 0 to n of all roots of the polynomial, each as often as it is there (Newton's way);
// nothing and false, if 0 may be in the last coefficient.
func (r Rule) Sums(cs []Ball, n int) ([]Ball, bool) {
	d := len(cs) - 1
	monic := make([]Ball, d)
	for i := range d {
		c, ok := r.Quo(cs[i], cs[d])
		if !ok {
			return nil, false
		}
		monic[i] = c
	}
	sums := []Ball{r.Whole(num.Of(d))}
	for k := 1; k <= n; k++ {
		var s Ball
		if k <= d {
			s = monic[d-k].Times(num.Of(k))
		}
		for i := 1; i <= min(k-1, d); i++ {
			s = s.Add(r.Mul(monic[d-i], sums[k-i]))
		}
		sums = append(sums, s.Times(num.Of(-1)))
	}
	return sums, true
}

// Hankel is so many rows and columns, in which the entry in row i and column j is the number i + j of the list.
func Hankel(list []Ball, rows, columns int) [][]Ball {
	m := make([][]Ball, rows)
	for i := range m {
		m[i] = append(m[i], list[i:i+columns]...)
	}
	return m
}

// Rank is how many of the rows surely do not hang on each other, as far as that can be told; and what is left of the
// others, if as much of those is taken from them as makes most of their entries 0: one ball in which all the rest are.
func (r Rule) Rank(rows [][]Ball) (int, Ball) {
	n := 0
	for len(rows) > 0 && len(rows[0]) > 0 {
		i, j := widest(rows)
		if rows[i][j].Sign() == 0 {
			break
		}
		rows = r.without(rows, i, j)
		n++
	}
	var rest Ball
	for _, row := range rows {
		for _, a := range row {
			if far := a.most(); far.Cmp(rest.rad) > 0 {
				rest.rad = far
			}
		}
	}
	return n, rest
}

// widest is where the entry stands that is surest to be far from 0.
func widest(rows [][]Ball) (i, j int) {
	best := rows[0][0].least()
	for k, row := range rows {
		for l, a := range row {
			if far := a.least(); far.Cmp(best) > 0 {
				i, j, best = k, l, far
			}
		}
	}
	return i, j
}

// without is the rows less as much of row i as makes column j 0, without both; 0 is not in their entry.
func (r Rule) without(rows [][]Ball, i, j int) [][]Ball {
	var rest [][]Ball
	for k, row := range rows {
		if k == i {
			continue
		}
		// It is not refused: the entry is not 0.
		times, _ := r.Quo(row[j], rows[i][j])
		var left []Ball
		for l, a := range row {
			if l != j {
				left = append(left, a.Sub(r.Mul(times, rows[i][l])))
			}
		}
		rest = append(rest, left)
	}
	return rest
}

// Longest is a ball in which all sums of the entries of a row are, whatever their signs.
func Longest(rows [][]Ball) Ball {
	var all Ball
	for _, row := range rows {
		var sum num.Int
		for _, a := range row {
			sum = sum.Add(a.most())
		}
		if sum.Cmp(all.rad) > 0 {
			all.rad = sum
		}
	}
	return all
}

// Solve is the numbers with which the columns of the rows but the last come to the last one; nothing and false, if it
// is not sure that there are just one. It writes to the rows.
func (r Rule) Solve(rows [][]Ball) ([]Ball, bool) {
	n := len(rows)
	for c := range n {
		p := c
		for i := c + 1; i < n; i++ {
			if rows[i][c].least().Cmp(rows[p][c].least()) > 0 {
				p = i
			}
		}
		rows[c], rows[p] = rows[p], rows[c]
		for i := c + 1; i < n; i++ {
			times, ok := r.Quo(rows[i][c], rows[c][c])
			if !ok {
				return nil, false
			}
			for j := c + 1; j <= n; j++ {
				rows[i][j] = rows[i][j].Sub(r.Mul(times, rows[c][j]))
			}
		}
	}
	return r.back(rows)
}

// back is what Solve tells of rows in which each column is 0 below its own row.
func (r Rule) back(rows [][]Ball) ([]Ball, bool) {
	n := len(rows)
	xs := make([]Ball, n)
	for i := n - 1; i >= 0; i-- {
		sum := rows[i][n]
		for j := i + 1; j < n; j++ {
			sum = sum.Sub(r.Mul(rows[i][j], xs[j]))
		}
		x, ok := r.Quo(sum, rows[i][i])
		if !ok {
			return nil, false
		}
		xs[i] = x
	}
	return xs, true
}
