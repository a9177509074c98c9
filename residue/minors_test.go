package residue

import (
	"slices"
	"testing"
)

// minor is the determinant of chapter 8, number j, of lists of coefficients of which the last may be 0.
func (f Field) minor(a, b []uint64, j int) uint64 {
	p, q := len(a)-1, len(b)-1
	var rows [][]uint64
	put := func(of []uint64, many int) {
		for i := range many {
			row := make([]uint64, p+q)
			for k, c := range of {
				row[i+len(of)-1-k] = c
			}
			rows = append(rows, row[:p+q-2*j])
		}
	}
	put(a, q-j)
	put(b, p-j)
	return f.rowsDeterminant(rows)
}

// ends gives a list of so many numbers, of which many are 0, the last ones more often.
func (d *draw) ends(f Field, n int) []uint64 {
	l := make([]uint64, n)
	for i := range l[:n-d.below(n+1)] {
		if d.below(3) > 0 {
			l[i] = in(f, d.plain(f))
		}
	}
	return l
}

func wantMinors(t *testing.T, f Field, a, b []uint64) {
	t.Helper()
	x, y := slices.Clone(a), slices.Clone(b)
	got := f.Minors(a, b)
	wantList(t, "what it was", a, x)
	wantList(t, "what it was", b, y)
	want(t, "how many", len(got), min(len(a), len(b)))
	for j, c := range got {
		want(t, "minor", c, f.minor(a, b, j))
	}
}

func TestMinors(t *testing.T) {
	d, f := draw{8}, First()
	for range 20000 {
		wantMinors(t, f, d.ends(f, 1+d.below(8)), d.ends(f, 1+d.below(8)))
	}
}

// Common divisors make many of them 0.
func TestMinorsOfProducts(t *testing.T) {
	d, f := draw{9}, First().Next()
	for range 3000 {
		c := d.list(f, d.below(4))
		a, b := f.times(d.list(f, d.below(4)), c), f.times(d.list(f, d.below(4)), c)
		wantMinors(t, f, a, b)
		for j, m := range f.Minors(a, b) {
			want(t, "0 below the common degree", j < len(c)-1 && m != 0, false)
		}
		wantMinors(t, f, append(a, make([]uint64, d.below(3))...), append(b, make([]uint64, d.below(3))...))
	}
}

// All polynomials of degrees up to 3 with the coefficients -1, 0 and 1.
func TestMinorsOfAllSmall(t *testing.T) {
	f := First()
	var all [][]uint64
	for size := 1; size <= 4; size++ {
		for n := range []int{1, 3, 9, 27, 81}[size] {
			l := make([]uint64, size)
			for i := range l {
				l[i] = []uint64{0, f.one, f.sub(0, f.one)}[n%3]
				n /= 3
			}
			all = append(all, l)
		}
	}
	for _, a := range all {
		for _, b := range all {
			wantMinors(t, f, a, b)
		}
	}
}
