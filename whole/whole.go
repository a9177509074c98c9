// Package whole has what is asked of integers by those who round: powers of 2, lengths in bits, quotients.
package whole

import (
	"math/bits"

	"radicand/num"
)

// TwoTo is 2 to the n, which is not below 0.
func TwoTo(n int) num.Int {
	if n < 62 {
		return num.Of(1 << n)
	}
	half := TwoTo(n / 2)
	p := half.Mul(half)
	if n%2 == 1 {
		p = p.Add(p)
	}
	return p
}

// BitLen is how many bits a has without its sign.
func BitLen(a num.Int) int {
	if n, is := a.Small(); is {
		return bits.Len64(uint64(max(n, -n)))
	}
	a = Size(a)
	n := 62
	for a.Cmp(TwoTo(2*n)) >= 0 {
		n *= 2
	}
	return n + BitLen(Floor(a, TwoTo(n)))
}

// Size is a without its sign.
func Size(a num.Int) num.Int {
	if a.Sign() < 0 {
		return a.Neg()
	}
	return a
}

// Floor is the greatest integer that is not above a divided by b; 0, if b is 0.
func Floor(a, b num.Int) num.Int {
	if b.Sign() < 0 {
		a, b = a.Neg(), b.Neg()
	}
	q, _, _ := a.Div(b)
	return q
}

// Ceil is the least integer that is not below a divided by b, which is above 0.
func Ceil(a, b num.Int) num.Int { return Floor(a.Neg(), b).Neg() }
