package num

import "radicand/api"

// Root is the k-th root of a, rounded towards 0.
func (a Int) Root(k int) (Int, api.Fault) {
	if k < 1 || k > api.MaxPower {
		return Int{}, api.Fault{Code: api.ErrRange}
	}
	if a.small < 0 && k%2 == 0 {
		return Int{}, api.Fault{Code: api.ErrNone}
	}
	if a.small == 0 || k == 1 {
		return a, api.Fault{}
	}
	r := root(a.magnitude(), k)
	if a.small < 0 {
		r = r.Neg()
	}
	return r, api.Fault{}
}

// root is the k-th root, rounded down, of a magnitude that has words, for a k above 1: the root of what
// stands ahead of it tells half of the digits; from there on, from above, by Newton's way.
func root(w []uint64, k int) Int {
	n := (bitLen(w)-1)/k + 1
	if n == 1 {
		return Of(1)
	}
	a, s := signed(false, w), n/2
	x := timesTwoTo(root(shiftRight(w, k*s), k).Add(Of(1)), s)
	for {
		// From above, a step goes down until x is the root.
		q, _ := cut(a, power(x, k-1))
		y, _ := cut(x.Mul(Of(k-1)).Add(q), Of(k))
		if y.Cmp(x) >= 0 {
			return x
		}
		x = y
	}
}

// timesTwoTo is a, which is not below 0, times 2^n.
func timesTwoTo(a Int, n int) Int {
	return signed(false, shiftLeft(a.magnitude(), n))
}
