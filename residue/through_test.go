package residue

import (
	"slices"
	"testing"
)

// at is what a polynomial is at x.
func (f Field) at(p []uint64, x uint64) uint64 {
	var y uint64
	for _, c := range slices.Backward(p) {
		y = f.sub(f.mul(y, x), f.sub(0, c))
	}
	return y
}

func TestThrough(t *testing.T) {
	d := draw{7}
	for _, f := range fields(2) {
		points := f.Points(40)
		for n := range 41 {
			p, ys := make([]uint64, n), make([]uint64, n)
			for i := range p {
				p[i] = in(f, d.plain(f))
			}
			for i := range ys {
				ys[i] = f.at(p, in(f, uint64(i)))
			}
			points.Through(ys)
			wantList(t, "coefficients", ys, p)
			ys = append(ys[:0], 0)
			f.Points(1).Through(ys)
			wantList(t, "0", ys, []uint64{0})
		}
		for i := range 40 {
			want(t, "powers", len(points.Powers(i, i)), i+1)
			for n, x := range points.Powers(i, 9) {
				want(t, "power", x, f.pow(in(f, uint64(i)), n))
			}
		}
	}
}

func TestSums(t *testing.T) {
	d, f := draw{10}, First()
	for range 200 {
		sums, ns, ks := d.list(f, 5), d.list(f, d.below(20)), d.list(f, 6)
		to, by := make([]int, len(ns)), make([]int, len(ns))
		wanted := make([]uint64, len(sums))
		for i, n := range ns {
			to[i], by[i] = d.below(len(sums)), d.below(len(ks))
			wanted[to[i]] = f.sub(wanted[to[i]], f.sub(0, f.mul(n, ks[by[i]])))
		}
		f.Sums(sums, ns, to, by, ks)
		wantList(t, "sums", sums, wanted)
	}
}
