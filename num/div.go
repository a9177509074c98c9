package num

import "math/bits"

// From so many words on, of a divisor and of a quotient, halves take less time than single words.
const splitFrom = 80

// divWords is the quotient of a and b, which is not 0, and what is left of a.
func divWords(a, b []uint64) (q, r []uint64) {
	if cmpWords(a, b) < 0 {
		return nil, a
	}
	if isTwoTo(b) {
		n := bitLen(b) - 1
		return shiftRight(a, n), lowBits(a, n)
	}
	if len(b) == 1 {
		q = make([]uint64, len(a))
		copy(q, a)
		rest := divByWord(q, b[0])
		return front(q, len(q)), front([]uint64{rest}, 1)
	}
	// All ways below guess words of the quotient well only where b's highest bit is set.
	s := uint(bits.LeadingZeros64(b[len(b)-1]))
	b = shiftLeft(b, int(s))
	u := make([]uint64, len(a)+1)
	moveUp(u, a, s)
	if short(len(a), len(b)) {
		q, r = divRows(u, b)
		moveDown(r, r, s)
		return q, front(r, len(r))
	}
	q, r = divShifted(front(u, len(u)), b)
	return q, shiftRight(r, int(s))
}

// short tells whether a number of n words is best divided by one of m words word by word.
func short(n, m int) bool {
	return m < splitFrom || n-m < splitFrom
}

// divByWord sets a to its quotient by d, and answers what is left.
func divByWord(a []uint64, d uint64) uint64 {
	var r uint64
	for i := len(a) - 1; i >= 0; i-- {
		a[i], r = bits.Div64(r, a[i], d)
	}
	return r
}

// divShifted is the quotient of a and b, which has its highest bit set, and what is left of a.
func divShifted(a, b []uint64) (q, r []uint64) {
	n, m := len(b), len(a)-len(b)
	if cmpWords(a, b) < 0 {
		return nil, a
	}
	if short(len(a), n) {
		u := make([]uint64, len(a)+1)
		copy(u, a)
		return divRows(u, b)
	}
	if m > n {
		return divBlocks(a, b)
	}
	if m < n {
		return divTop(back(a, n-m), front(a, n-m), b, n-m)
	}
	k := n / 2
	q1, r1 := divTop(back(a, 2*k), front(a[k:], k), b, k)
	q0, r0 := divTop(r1, front(a, k), b, k)
	return join(q0, q1, k), r0
}

// divBlocks does what divShifted does, where a has more than twice as many words as b, in blocks as long as b.
func divBlocks(a, b []uint64) (q, r []uint64) {
	n := len(b)
	q = make([]uint64, len(a))
	for i := (len(a) - 1) / n * n; i >= 0; i -= n {
		var part []uint64
		part, r = divShifted(join(front(a[i:], n), r, n), b)
		copy(q[i:], part)
	}
	return front(q, len(q)), r
}

// divTop is the quotient of hi 2^(64 k) + lo and b, and what is left: it is guessed by what b has from its
// word k on. The guess is never below the quotient, and, b's highest bit being set, at most 4 above it.
func divTop(hi, lo, b []uint64, k int) (q, r []uint64) {
	q, r = divShifted(hi, b[k:])
	r = join(lo, r, k)
	over := mulWords(q, front(b, k))
	for cmpWords(r, over) < 0 {
		r = addWords(r, b)
		q = subWords(q, []uint64{1})
	}
	return q, subWords(r, over)
}

// divRows is the quotient of u, whose last word is 0, and b, which has its highest bit set and two words or
// more, and what is left, word by word. Both stand in u then: the rest is its front, and the words of the
// quotient take the places that the dividend leaves.
func divRows(u, b []uint64) (q, r []uint64) {
	n := len(b)
	for i := len(u) - n - 1; i >= 0; i-- {
		part := u[i : i+n+1 : i+n+1]
		d := guessWord(part, b)
		if d != 0 && subProduct(part, b, d) != 0 {
			d--
			addTo(part, b)
		}
		part[n] = d
	}
	return front(u[n:], len(u)), front(u, n)
}

// guessWord is the quotient of u, which has a word more than b and is below 2^64 b, by b, or one more than it.
func guessWord(u, b []uint64) uint64 {
	n := len(b)
	top, next := b[n-1], b[n-2]
	if u[n] >= top {
		return 1<<64 - 1
	}
	d, rest := bits.Div64(u[n], u[n-1], top)
	for {
		hi, lo := bits.Mul64(d, next)
		if hi < rest || hi == rest && lo <= u[n-2] {
			return d
		}
		d--
		var c uint64
		rest, c = bits.Add64(rest, top, 0)
		if c != 0 {
			return d
		}
	}
}

// subProduct takes x times d from z, which has a word more than x, and answers what it had to borrow.
func subProduct(z, x []uint64, d uint64) uint64 {
	var over, c uint64
	n := len(x)
	low := z[:n]
	for i, w := range x {
		lo, hi := mulAdd(w, d, over)
		low[i], c = bits.Sub64(low[i], lo, 0)
		over, _ = bits.Add64(hi, 0, c)
	}
	z[n], c = bits.Sub64(z[n], over, 0)
	return c
}
