package residue

// Points is 0, 1, 2 .. in a field, and the polynomials that are told by what they are there.
type Points struct {
	Field
	points []uint64
	over   []uint64 // 1 over the product of all points from 1 on, up to this one
}

// Points is the first n points; n is 1 or more.
func (f Field) Points(n int) Points {
	p := Points{f, make([]uint64, n), make([]uint64, n)}
	less, product := f.sub(0, f.one), f.one
	for i := 1; i < n; i++ {
		p.points[i] = f.sub(p.points[i-1], less)
		product = f.mul(product, p.points[i])
	}
	p.over[n-1] = f.inverse(product)
	for i := n - 1; i > 0; i-- {
		p.over[i-1] = f.mul(p.over[i], p.points[i])
	}
	return p
}

// Powers is the point number i to the 0, .. to the n.
func (p Points) Powers(i, n int) []uint64 {
	l := []uint64{p.one}
	for len(l) <= n {
		l = append(l, p.mul(l[len(l)-1], p.points[i]))
	}
	return l
}

// Through sets ys, what a polynomial of a lower degree than their number is at the points, to its coefficients, the
// lowest first (Newton's way). There are as many points, or more.
func (p Points) Through(ys []uint64) {
	n := len(ys)
	for k := 1; k < n; k++ {
		for i := n - 1; i >= k; i-- {
			ys[i] = p.sub(ys[i], ys[i-1])
		}
	}
	for i, over := range p.over[:n] {
		ys[i] = p.mul(ys[i], over)
	}
	// Now the polynomial is ys[0] + x (ys[1] + (x - 1) (ys[2] + ..)).
	for i := n - 2; i > 0; i-- {
		p.take(ys[i:], ys[i+1:], p.points[i])
	}
}

// Sums adds up, at to[i] of as many numbers as sums has, each number i of ns times one of ks, the number by[i].
func (f Field) Sums(sums, ns []uint64, to, by []int, ks []uint64) {
	clear(sums)
	for i, n := range ns {
		sums[to[i]] = f.least(sums[to[i]] + f.mul(n, ks[by[i]]))
	}
}
