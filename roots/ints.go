package roots

import (
	"math/bits"

	"radicand/num"
	"radicand/poly"
)

// numbers is the coefficients, the lowest first, of a polynomial that has integers as such.
func numbers(f poly.Poly) []num.Int {
	l := make([]num.Int, f.Degree()+1)
	for i := range l {
		l[i], _ = f.At(i).Parts()
	}
	return l
}

// twoTo is 2 to the n, which is not below 0.
func twoTo(n int) num.Int {
	if n < 62 {
		return num.Of(1 << n)
	}
	half := twoTo(n / 2)
	p := half.Mul(half)
	if n%2 == 1 {
		p = p.Add(p)
	}
	return p
}

// bitLen is how many bits a has without its sign.
func bitLen(a num.Int) int {
	if n, is := a.Small(); is {
		return bits.Len64(uint64(max(n, -n)))
	}
	if a.Sign() < 0 {
		a = a.Neg()
	}
	n := 62
	for a.Cmp(twoTo(2*n)) >= 0 {
		n *= 2
	}
	return n + bitLen(floor(a, twoTo(n)))
}

// next is a + 1.
func next(a num.Int) num.Int { return a.Add(num.Of(1)) }

// size is a without its sign.
func size(a num.Int) num.Int {
	if a.Sign() < 0 {
		return a.Neg()
	}
	return a
}

// floor is the greatest integer that is not above a divided by b; 0, if b is 0.
func floor(a, b num.Int) num.Int {
	if b.Sign() < 0 {
		a, b = a.Neg(), b.Neg()
	}
	q, _, _ := a.Div(b)
	return q
}

// up is the least integer that is not below a divided by b, which is above 0.
func up(a, b int) int {
	q := a / b
	if a%b > 0 {
		q++
	}
	return q
}

// parts is at over 2^k, above and below the bar.
func parts(at num.Int, k int) (num.Int, num.Int) {
	if k < 0 {
		return at.Mul(twoTo(-k)), num.Of(1)
	}
	return at, twoTo(k)
}

// compare is -1, 0 or 1, as at over 2^k is below x, is x, or above it.
func compare(at num.Int, k int, x num.Frac) int {
	a, b := parts(at, k)
	c, d := x.Parts()
	return a.Mul(d).Cmp(c.Mul(b))
}

// value is f at a over b, times b to f's degree.
func value(f []num.Int, a, b num.Int) num.Int {
	n := len(f) - 1
	sum, power := f[n], num.Of(1)
	for i := n - 1; i >= 0; i-- {
		power = power.Mul(b)
		sum = sum.Mul(a).Add(f[i].Mul(power))
	}
	return sum
}
