package num

import (
	"math"
	"math/bits"
)

// Gcd is the greatest number that divides both; 0 of 0 and 0.
func Gcd(a, b Int) Int {
	if a.wide == nil && b.wide == nil {
		g := gcdWord(sizeOf(a.small), sizeOf(b.small))
		if g <= math.MaxInt {
			return Int{small: int(g)}
		}
		return signed(false, []uint64{g})
	}
	if a.wide == nil {
		a, b = b, a
	}
	if b.small == 0 {
		return signed(false, a.wide)
	}
	return signed(false, gcdWords(a.wide, b.magnitude()))
}

func gcdWord(a, b uint64) uint64 {
	if a == 0 || b == 0 {
		return a | b
	}
	s := bits.TrailingZeros64(a | b)
	a >>= bits.TrailingZeros64(a)
	for b != 0 {
		b >>= bits.TrailingZeros64(b)
		a, b = min(a, b), max(a, b)-min(a, b)
	}
	return a << s
}

// modWord is what is left of w divided by d.
func modWord(w []uint64, d uint64) uint64 {
	var r uint64
	for i := len(w) - 1; i >= 0; i-- {
		_, r = bits.Div64(r, w[i], d)
	}
	return r
}

// gcdWords is the greatest common divisor of two magnitudes that have words.
func gcdWords(a, b []uint64) []uint64 {
	if len(b) == 1 {
		return []uint64{gcdWord(b[0], modWord(a, b[0]))}
	}
	c := chaseOf(a, b, false)
	c.run()
	x, y := front(c.x, len(c.x)), front(c.y, 1)
	if len(y) == 0 {
		return x
	}
	return []uint64{gcdWord(y[0], modWord(x, y[0]))}
}

// Bezout is g, u, v with u a + v b = g, which is Gcd of a and b; u is at least 0 and below b/g without its sign.
func Bezout(a, b Int) (Int, Int, Int) {
	if b.small == 0 {
		return Gcd(a, b), Of(a.Sign()), Int{}
	}
	g, u := descend(a.magnitude(), b.magnitude())
	if a.small < 0 {
		u = u.Neg()
	}
	_, u = cut(u, share(b, g))
	return g, u, share(g.Sub(u.Mul(a)), b)
}

// descend is the greatest common divisor of a and b, not both 0, and a number that is as many times a as that,
// up to multiples of b.
func descend(a, b []uint64) (g, u Int) {
	c := chaseOf(a, b, true)
	c.run()
	if len(front(c.y, 1)) == 0 {
		return signed(false, front(c.x, len(c.x))), signed(c.minus, front(c.u, len(c.u)))
	}
	c.step()
	d, t := lastTurn(c.x[0], c.y[0])
	w := addWords(mulWord(front(c.u, len(c.u)), t.p), mulWord(front(c.v, len(c.v)), t.q))
	return signed(false, []uint64{d}), signed(c.minus != t.odd, w)
}

// A chase is on the way to the greatest common divisor of two numbers, the first and the second (Lehmer's way).
type chase struct {
	x, y  []uint64 // words of its own, as many in each; x is not below y
	full  bool     // whether the others are kept
	u, v  []uint64 // how many times the first number x and y are, up to multiples of the second; likewise
	minus bool     // u is meant with the sign -, v without one; if not: the other way round
}

func chaseOf(a, b []uint64, full bool) *chase {
	c := &chase{full: full}
	if full {
		c.u, c.v = []uint64{1}, []uint64{0}
	}
	if cmpWords(a, b) < 0 {
		a, b = b, a
		c.u, c.v, c.minus = c.v, c.u, true
	}
	c.x, c.y = make([]uint64, len(a)), make([]uint64, len(a))
	copy(c.x, a)
	copy(c.y, b)
	return c
}

// run goes on until y has one word at most.
func (c *chase) run() {
	for {
		n := len(front(c.x, len(c.x)))
		c.x, c.y = c.x[:n], c.y[:n]
		if len(front(c.y, n)) < 2 {
			return
		}
		if t := turnOf(c.x, c.y); t.q != 0 {
			c.turn(t)
		} else {
			c.step()
		}
	}
}

// step puts what is left of x divided by y in the place of x, and turns both round.
func (c *chase) step() {
	q, r := divWords(front(c.x, len(c.x)), front(c.y, len(c.y)))
	clear(c.x)
	copy(c.x, r)
	c.x, c.y = c.y, c.x
	if !c.full {
		return
	}
	w := addWords(front(c.u, len(c.u)), mulWords(q, front(c.v, len(c.v))))
	c.u, c.v, c.minus = c.v, w, !c.minus
	// v never has less words than u: it only grows.
	for len(c.u) < len(c.v) {
		c.u = append(c.u, 0)
	}
}

// turn takes the steps of t at once.
func (c *chase) turn(t turn) {
	if c.full {
		if high, low := t.spread(c.u, c.v); high|low != 0 {
			c.u, c.v = append(c.u, high), append(c.v, low)
		}
		c.minus = c.minus != t.odd
	}
	if t.odd {
		c.x, c.y = c.y, c.x
		t.p, t.q, t.r, t.s = t.q, t.p, t.s, t.r
	}
	t.mix(c.x, c.y)
}

// A turn is several steps at once: x becomes p x - q y, y becomes s y - r x; if odd, the opposites of these.
type turn struct {
	p, q, r, s uint64
	odd        bool
}

// turnOf is the steps that can be told from the first 64 bits of x, and those of y that stand beside them;
// if q is 0, there are none. Collins' rule tells when these bits are not to be trusted any more, and keeps
// p, q, r and s below 2^33. x has two words or more, the last not 0.
func turnOf(x, y []uint64) turn {
	n := len(x)
	h := uint(bits.LeadingZeros64(x[n-1]))
	a := x[n-1]<<h | x[n-2]>>(64-h)
	b := y[n-1]<<h | y[n-2]>>(64-h)
	t := turn{r: 1, odd: true}
	u, v := uint64(0), uint64(1)
	for b >= v && a-b >= t.s+v {
		k := a / b
		a, b = b, a-k*b
		t.p, t.r, u = t.r, u, t.r+k*u
		t.q, t.s, v = t.s, v, t.s+k*v
		t.odd = !t.odd
	}
	return t
}

// lastTurn is the greatest common divisor of two numbers, and the steps to it; its r and s are not told.
func lastTurn(x, y uint64) (uint64, turn) {
	t := turn{p: 1}
	p, q := uint64(0), uint64(1)
	for y != 0 {
		k := x / y
		x, y = y, x-k*y
		t.p, p = p, t.p+k*p
		t.q, q = q, t.q+k*q
		t.odd = !t.odd
	}
	return x, t
}

// mix sets x to p x - q y, and y to s y - r x; both are numbers of as many words, and none comes out below 0.
func (t turn) mix(x, y []uint64) {
	var px, qy, rx, sy, xc, yc uint64
	y = y[:len(x)]
	for i, a := range x {
		b := y[i]
		var plus, less uint64
		plus, px = mulAdd(t.p, a, px)
		less, qy = mulAdd(t.q, b, qy)
		x[i], xc = bits.Sub64(plus, less, xc)
		plus, sy = mulAdd(t.s, b, sy)
		less, rx = mulAdd(t.r, a, rx)
		y[i], yc = bits.Sub64(plus, less, yc)
	}
}

// spread sets u to p u + q v, and v to r u + s v; both are numbers of as many words. It answers what runs over.
func (t turn) spread(u, v []uint64) (high, low uint64) {
	var pu, qv, ru, sv, uc, vc uint64
	v = v[:len(u)]
	for i, a := range u {
		b := v[i]
		var one, two uint64
		one, pu = mulAdd(t.p, a, pu)
		two, qv = mulAdd(t.q, b, qv)
		u[i], uc = bits.Add64(one, two, uc)
		one, ru = mulAdd(t.r, a, ru)
		two, sv = mulAdd(t.s, b, sv)
		v[i], vc = bits.Add64(one, two, vc)
	}
	return pu + qv + uc, ru + sv + vc
}
