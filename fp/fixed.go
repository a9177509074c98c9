package fp

// fixed is polynomials v of lower degrees than f for which f divides v to the p less v; f has degree 1 or more and no
// squares. Such a v is a number modulo each irreducible one that divides f, and there is one for any such numbers.
// So the fixed ones, of which all v are sums with numbers ahead of them, are as many as the irreducible ones, and any
// two irreducible ones are told apart by one of them. The first is 1.
func (k field) fixed(f []int) [][]int {
	rows := k.equations(f)
	var vs [][]int
	var pivots []int // the column in which each of the first rows alone is not 0, but 1
	for c := range rows {
		at := k.find(rows, c, len(pivots))
		if at < 0 {
			vs = append(vs, k.solution(rows, pivots, c))
			continue
		}
		top := len(pivots)
		rows[top], rows[at] = rows[at], rows[top]
		k.sweep(rows, top, c)
		pivots = append(pivots, c)
	}
	return vs
}

// equations is rows of sums: that x to the c i-th power gives to the coefficient r of v to the p less v stands in
// the row r at c.
func (k field) equations(f []int) [][]int {
	n := len(f) - 1
	rows := make([][]int, n)
	for r := range rows {
		rows[r] = make([]int, n)
		rows[r][r] = k.p - 1
	}
	step := k.power([]int{0, 1}, k.p, f)
	power := []int{1}
	for c := range n {
		for r, x := range power {
			rows[r][c] += x
		}
		power = k.rest(k.product(power, step), f)
	}
	return rows
}

// find is the first row from that one on which is not 0 in the column c; -1, if there is none.
func (k field) find(rows [][]int, c, from int) int {
	for r := from; r < len(rows); r++ {
		if k.least(rows[r][c]) != 0 {
			return r
		}
	}
	return -1
}

// sweep makes the row top 1 in the column c, and all others 0 there. Ahead of that column the row is 0 already.
func (k field) sweep(rows [][]int, top, c int) {
	row := k.monicRow(rows[top], c)
	rows[top] = row
	for r := range rows {
		if r != top {
			k.gather(rows[r][c:], row[c:], k.opposite(k.least(rows[r][c])))
		}
	}
}

// monicRow is the row, settled, over what stands in its column c.
func (k field) monicRow(row []int, c int) []int {
	over := k.inverse(k.least(row[c]))
	l := make([]int, len(row))
	for i := c; i < len(row); i++ {
		l[i] = k.least(k.least(row[i]) * over)
	}
	return l
}

// solution is the one that is 1 in the column c, which has no pivot, and 0 in all others without a pivot.
func (k field) solution(rows [][]int, pivots []int, c int) []int {
	v := make([]int, c+1)
	v[c] = 1
	for r, pivot := range pivots {
		v[pivot] = k.opposite(k.least(rows[r][c]))
	}
	return v
}
