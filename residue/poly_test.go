package residue

import (
	"slices"
	"testing"
)

// list is a polynomial of degree n.
func (d *draw) list(f Field, n int) []uint64 {
	l := make([]uint64, n+1)
	for i := range l {
		l[i] = in(f, d.plain(f))
	}
	for l[n] == 0 {
		l[n] = in(f, d.plain(f))
	}
	return l
}

func (f Field) times(a, b []uint64) []uint64 {
	if len(a) == 0 || len(b) == 0 {
		return nil
	}
	p := make([]uint64, len(a)+len(b)-1)
	for i, x := range a {
		for j, y := range b {
			p[i+j] = f.sub(p[i+j], f.sub(0, f.mul(x, y)))
		}
	}
	return p
}

func (f Field) minus(a, b []uint64) []uint64 {
	d := make([]uint64, max(len(a), len(b)))
	copy(d, a)
	for i, x := range b {
		d[i] = f.sub(d[i], x)
	}
	for len(d) > 0 && d[len(d)-1] == 0 {
		d = d[:len(d)-1]
	}
	return d
}

// determinant is that of the rows that Resultant speaks of.
func (f Field) determinant(a, b []uint64) uint64 {
	size := len(a) + len(b) - 2
	var rows [][]uint64
	for _, of := range [][2][]uint64{{a, b}, {b, a}} {
		for i := range len(of[1]) - 1 {
			row := make([]uint64, size)
			for j, c := range of[0] {
				row[i+len(of[0])-1-j] = c
			}
			rows = append(rows, row)
		}
	}
	return f.rowsDeterminant(rows)
}

func (f Field) rowsDeterminant(rows [][]uint64) uint64 {
	det := f.one
	for k := range rows {
		i := slices.IndexFunc(rows[k:], func(row []uint64) bool { return row[k] != 0 })
		if i < 0 {
			return 0
		}
		if i > 0 {
			rows[k], rows[k+i] = rows[k+i], rows[k]
			det = f.sub(0, det)
		}
		det = f.mul(det, rows[k][k])
		for _, row := range rows[k+1:] {
			f.take(row, rows[k], f.mul(row[k], f.inverse(rows[k][k])))
		}
	}
	return det
}

func wantList(t *testing.T, what string, got, wanted []uint64) {
	t.Helper()
	if !slices.Equal(got, wanted) {
		t.Fatalf("%s: got %v, want %v", what, got, wanted)
	}
}

func TestDivide(t *testing.T) {
	d, f := draw{3}, First()
	for range 400 {
		a, b := d.list(f, d.below(9)), d.list(f, d.below(6))
		q, r := f.divide(slices.Clone(a), b)
		want(t, "degree", len(r) < len(b), true)
		want(t, "last of the rest", len(r) == 0 || r[len(r)-1] != 0, true)
		wantList(t, "a - q b", f.minus(a, f.times(q, b)), r)
		_, r = f.divide(f.times(a, b), b)
		want(t, "rest of a product", len(r), 0)
	}
}

func TestGcdOfProducts(t *testing.T) {
	d, f := draw{4}, First().Next()
	for range 300 {
		a, b, c := d.list(f, d.below(5)), d.list(f, d.below(5)), d.list(f, d.below(5))
		x, y := f.times(a, c), f.times(b, c)
		g := f.Gcd(x, y)
		want(t, "monic", g[len(g)-1], f.one)
		for _, p := range [][]uint64{x, y} {
			_, r := f.divide(slices.Clone(p), g)
			want(t, "rest", len(r), 0)
		}
		_, r := f.divide(slices.Clone(g), c)
		want(t, "rest of the divisor", len(r), 0)
		want(t, "no more", f.determinant(a, b) == 0 || len(g) == len(c), true)
	}
}

func TestResultantAndBezout(t *testing.T) {
	d, f := draw{5}, First()
	for range 600 {
		a, b := d.list(f, d.below(6)), d.list(f, d.below(6))
		if d.below(4) == 0 {
			c := d.list(f, d.below(3))
			a, b = f.times(a, c), f.times(b, c)
		}
		x, y := slices.Clone(a), slices.Clone(b)
		det := f.determinant(a, b)
		want(t, "resultant", f.Resultant(a, b), det)
		if len(b) < 2 {
			continue
		}
		r, u := f.Bezout(a, b)
		wantList(t, "what it was", a, x)
		wantList(t, "what it was", b, y)
		want(t, "resultant", r, det)
		if r == 0 {
			want(t, "u", len(u), 0)
			continue
		}
		want(t, "numbers of u", len(u), len(b)-1)
		_, rest := f.divide(f.minus([]uint64{r}, f.times(a, u)), b)
		want(t, "rest of r - u a", len(rest), 0)
	}
}
