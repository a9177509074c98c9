package minors

import (
	"math"
	"math/big"
	"testing"

	"radicand/api"
	"radicand/num"
	"radicand/terms"
)

// want is a failure, if what is told is not what is wanted.
func want[T comparable](t *testing.T, what string, got, wanted T) {
	t.Helper()
	if got != wanted {
		t.Fatalf("%s: got %v, want %v", what, got, wanted)
	}
}

func whole(n int) num.Frac { return num.Whole(num.Of(n)) }

// A draw gives polynomials, the same ones each time.
type draw struct{ state uint64 }

func (d *draw) below(n int) int {
	d.state += 0x9e3779b97f4a7c15
	z := d.state
	z = (z ^ z>>30) * 0xbf58476d1ce4e5b9
	z = (z ^ z>>27) * 0x94d049bb133111eb
	return int((z ^ z>>31) % uint64(n))
}

// A kind of polynomials: of n variables, with so many terms, exponents and coefficients up to these; the last variable
// has exponents up to high.
type kind struct{ n, many, most, high, size int }

func (d *draw) poly(k kind) terms.Poly {
	return terms.Total(k.many, func(int) terms.Poly {
		var e terms.Power
		for v := range k.n - 1 {
			e[v] = d.below(k.most + 1)
		}
		e[k.n-1] = d.below(k.high + 1)
		return terms.Single(whole(d.below(2*k.size+1)-k.size), e)
	})
}

// pair is two polynomials that are not 0, by the last variable, with all their numbers or some of them.
func (d *draw) pair(k kind) pair {
	a, b := d.poly(k), d.poly(k)
	for a.Len() == 0 || b.Len() == 0 {
		a, b = d.poly(k), d.poly(k)
	}
	x := pair{a: a.By(k.n - 1), b: b.By(k.n - 1)}
	x.most = min(len(x.a), len(x.b)) - 1
	if d.below(3) == 0 {
		x.least = d.below(x.most + 1)
		x.most -= d.below(x.most + 1 - x.least)
	}
	return x
}

// joined is the polynomial with these coefficients by v.
func joined(cs []terms.Poly, v int) terms.Poly {
	return terms.Total(len(cs), func(i int) terms.Poly {
		var e terms.Power
		e[v] = i
		return cs[i].Mul(terms.Single(whole(1), e))
	})
}

// numbers is how many numbers up to top stand in m.
func numbers(m map[int]terms.Poly, top int) int {
	n := 0
	for j := range m {
		if j <= top {
			n++
		}
	}
	return n
}

func wantAlike(t *testing.T, what string, got, wanted map[int]terms.Poly) {
	t.Helper()
	want(t, what+": numbers", len(got), len(wanted))
	for j, m := range wanted {
		want(t, what+": not 0", m.Len() > 0, true)
		want(t, what, terms.Cmp(got[j], m), 0)
	}
}

func integer(x num.Frac) *big.Int {
	n, is := new(big.Int).SetString(x.Text(), 10)
	if !is {
		panic(x.Text())
	}
	return n
}

// at is the coefficients' values at a point.
func at(cs []terms.Poly, point []num.Frac) []*big.Int {
	l := make([]*big.Int, len(cs))
	for i, c := range cs {
		l[i] = integer(c.Value(point))
	}
	return l
}

// minor is the determinant of chapter 8, number j, of lists of coefficients.
func minor(a, b []*big.Int, j int) string {
	p, q := len(a)-1, len(b)-1
	n := p + q - 2*j
	var rows [][]*big.Int
	put := func(of []*big.Int, many int) {
		for i := range many {
			row := make([]*big.Int, n)
			for c := range row {
				row[c] = new(big.Int)
				if k := len(of) - 1 - (c - i); c >= i && k >= 0 {
					row[c].Set(of[k])
				}
			}
			rows = append(rows, row)
		}
	}
	put(a, q-j)
	put(b, p-j)
	return determinant(rows).String()
}

// determinant goes Bareiss' way: each number on it is a minor.
func determinant(rows [][]*big.Int) *big.Int {
	last, sign := big.NewInt(1), int64(1)
	for c := range rows {
		r := c
		for r < len(rows) && rows[r][c].Sign() == 0 {
			r++
		}
		if r == len(rows) {
			return new(big.Int)
		}
		if r != c {
			rows[r], rows[c] = rows[c], rows[r]
			sign = -sign
		}
		lead := rows[c][c]
		for _, row := range rows[c+1:] {
			head := row[c]
			for i := c + 1; i < len(row); i++ {
				x := new(big.Int).Mul(row[i], lead)
				x.Sub(x, new(big.Int).Mul(head, rows[c][i]))
				row[i] = x.Quo(x, last)
			}
			row[c] = new(big.Int)
		}
		last = lead
	}
	return last.Mul(last, big.NewInt(sign))
}

// wantMinors is a failure, if an answer has at some points not the values of the determinants.
func wantMinors(t *testing.T, d *draw, x pair, got map[int]terms.Poly) {
	t.Helper()
	for range 3 {
		point := make([]num.Frac, api.MaxVars)
		for v := range point {
			point[v] = whole(d.below(4001) - 2000)
		}
		a, b := at(x.a, point), at(x.b, point)
		for j := x.least; j <= x.most; j++ {
			want(t, "value", got[j].Value(point).Text(), minor(a, b, j))
		}
	}
	for j, m := range got {
		want(t, "a number that is asked for", j >= x.least && j <= x.most, true)
		want(t, "not 0", m.Len() > 0, true)
	}
}

func byColumns(t *testing.T, x pair) map[int]terms.Poly {
	t.Helper()
	found, done := x.byColumns(math.MaxInt)
	want(t, "done", done, true)
	return found
}
