package roots

import (
	"radicand/num"
	"radicand/poly"
	"radicand/whole"
)

// numbers is the coefficients, the lowest first, of a polynomial that has integers as such.
func numbers(f poly.Poly) []num.Int {
	l := make([]num.Int, f.Degree()+1)
	for i := range l {
		l[i], _ = f.At(i).Parts()
	}
	return l
}

// next is a + 1.
func next(a num.Int) num.Int { return a.Add(num.Of(1)) }

// up is the least integer that is not below a divided by b, which is above 0.
func up(a, b int) int {
	q := a / b
	if a%b > 0 {
		q++
	}
	return q
}

// parts is at over 2^k, above and below the bar.
func parts(at num.Int, k int) (num.Int, num.Int) {
	if k < 0 {
		return at.Mul(whole.TwoTo(-k)), num.Of(1)
	}
	return at, whole.TwoTo(k)
}

// compare is -1, 0 or 1, as at over 2^k is below x, is x, or above it.
func compare(at num.Int, k int, x num.Frac) int {
	a, b := parts(at, k)
	c, d := x.Parts()
	return a.Mul(d).Cmp(c.Mul(b))
}

// value is f at a over b, times b to f's degree.
func value(f []num.Int, a, b num.Int) num.Int {
	n := len(f) - 1
	sum, power := f[n], num.Of(1)
	for i := n - 1; i >= 0; i-- {
		power = power.Mul(b)
		sum = sum.Mul(a).Add(f[i].Mul(power))
	}
	return sum
}
