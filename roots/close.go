package roots

import (
	"radicand/num"
	"radicand/poly"
	"radicand/whole"
)

// The k with which closing in begins.
const firstLook = 16

// CloseIn hands greater and greater k to look, which may ask for the Floor of roots with it, until it has seen enough.
func CloseIn(look func(k int) bool) {
	for k := firstLook; !look(k); k *= 2 {
	}
}

// Cmp is -1 or 1, as a is below b or above it; they are not the same number.
func Cmp(a, b *Root) int {
	c := 0
	CloseIn(func(k int) bool {
		c = a.Floor(k).Cmp(b.Floor(k))
		return c != 0
	})
	return c
}

// Sign is the sign of p at the root, where p is not 0.
func (r *Root) Sign(p poly.Poly) int {
	k, p := p.Primitive()
	cs, s := numbers(p), 0
	CloseIn(func(bits int) bool {
		v, off := near(cs, r.Floor(bits), bits)
		if whole.Size(v).Cmp(off) > 0 {
			s = v.Sign()
		}
		return s != 0
	})
	return k.Sign() * s
}

// near is 2^k times what the polynomial comes to somewhere from at over 2^k to at + 1 over 2^k: a number, and how far
// it may be from that at most.
func near(cs []num.Int, at num.Int, k int) (v, off num.Int) {
	unit := whole.TwoTo(k)
	most := next(whole.Size(at))
	for i := len(cs) - 1; i >= 0; i-- {
		// Two more: both quotients are rounded.
		off = whole.Floor(whole.Size(v).Add(off.Mul(most)), unit).Add(num.Of(2))
		v = whole.Floor(v.Mul(at), unit).Add(cs[i].Mul(unit))
	}
	return v, off
}

// Floor is the greatest integer that is not above the root times 2^k; k is not below 0.
func (r *Root) Floor(k int) num.Int {
	for r.k < k && !r.here {
		r.step(min(r.leap, k-r.k))
	}
	if r.k < k {
		return r.at.Mul(whole.TwoTo(k - r.k))
	}
	return whole.Floor(r.at, whole.TwoTo(r.k-k))
}

// An end of a span: where it is, in parts of 2^k, and what f comes to there, as value tells it.
type end struct{ at, value num.Int }

func (r *Root) end(at num.Int, k int) end {
	a, b := parts(at, k)
	return end{at, value(r.f, a, b)}
}

// step makes the span shorter by so many bits, if a straight line between its ends leads near enough to the root: by
// one bit it always does. The next step is to be of twice as many bits then, else of half as many (Abbott's way).
func (r *Root) step(bits int) {
	k := r.k + bits
	low, high := r.ends(bits)
	at := between(low, high)
	// It is looked where the line leads, and on the side on which the root is, once.
	for look := 0; look < 2 && !beside(low, high); look++ {
		e := r.end(at, k)
		switch e.value.Sign() {
		case 0:
			r.at, r.k, r.here = at, k, true
			return
		case r.from:
			low, at = e, next(at)
		default:
			high, at = e, at.Sub(num.Of(1))
		}
	}
	if beside(low, high) {
		r.at, r.k, r.low, r.high = low.at, k, low.value, high.value
		r.leap = max(r.leap, 2*bits)
	} else {
		r.leap = max(bits/2, 1)
	}
}

// ends is both ends of the span, for a k that is greater by so many bits.
func (r *Root) ends(bits int) (low, high end) {
	behind := next(r.at)
	if !r.begun {
		r.low, r.high, r.begun = r.end(r.at, r.k).value, r.end(behind, r.k).value, true
	}
	times := whole.TwoTo(bits)
	grown := whole.TwoTo((len(r.f) - 1) * (max(r.k+bits, 0) - max(r.k, 0)))
	return end{r.at.Mul(times), r.low.Mul(grown)}, end{behind.Mul(times), r.high.Mul(grown)}
}

// beside tells whether there is no integer between the ends.
func beside(low, high end) bool { return high.at.Cmp(next(low.at)) == 0 }

// between is an integer between the ends, which are not beside each other: near to where a straight line is 0.
func between(low, high end) num.Int {
	long, fall := high.at.Sub(low.at), low.value.Sub(high.value)
	at := whole.Floor(low.value.Mul(long).Mul(num.Of(2)).Add(fall), fall.Mul(num.Of(2)))
	if at.Sign() <= 0 {
		return next(low.at)
	}
	if at.Cmp(long) >= 0 {
		return high.at.Sub(num.Of(1))
	}
	return low.at.Add(at)
}
