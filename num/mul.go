package num

import "math/bits"

// From so many words on, three products of halves take less time than four.
const halvesFrom = 48

func mulWords(x, y []uint64) []uint64 {
	if len(x) < len(y) {
		x, y = y, x
	}
	if len(y) == 0 {
		return nil
	}
	if isTwoTo(y) {
		return shiftLeft(x, bitLen(y)-1)
	}
	if isTwoTo(x) {
		return shiftLeft(y, bitLen(x)-1)
	}
	z := make([]uint64, len(x)+len(y))
	if len(y) < halvesFrom {
		mulRows(z, x, y)
	} else {
		mulBlocks(z, x, y)
	}
	return front(z, len(z))
}

// mulWord is x times d.
func mulWord(x []uint64, d uint64) []uint64 {
	if d == 0 {
		return nil
	}
	z := make([]uint64, len(x)+1)
	z[len(x)] = addProduct(z[:len(x)], x, d)
	return front(z, len(z))
}

// mulAdd is a b + c: its low word, and its high one.
func mulAdd(a, b, c uint64) (lo, hi uint64) {
	hi, lo = bits.Mul64(a, b)
	lo, c = bits.Add64(lo, c, 0)
	hi, _ = bits.Add64(hi, 0, c)
	return lo, hi
}

// addProduct adds x times d to z, which has as many words as x, and answers what runs over.
func addProduct(z, x []uint64, d uint64) uint64 {
	var over uint64
	z = z[:len(x)]
	for i, w := range x {
		lo, hi := mulAdd(w, d, z[i])
		var c uint64
		z[i], c = bits.Add64(lo, over, 0)
		over, _ = bits.Add64(hi, 0, c)
	}
	return over
}

// mulRows sets z, which has as many words as x and y together, all 0, to x times y.
func mulRows(z, x, y []uint64) {
	for i, d := range y {
		z[i+len(x)] = addProduct(z[i:i+len(x)], x, d)
	}
}

// mulBlocks does what mulRows does, for a y that is not longer than x, in blocks as long as y.
func mulBlocks(z, x, y []uint64) {
	n := len(y)
	room := make([]uint64, roomFor(n))
	whole := make([]uint64, 2*n)
	for i := 0; i < len(x); i += n {
		part := front(x[i:], n)
		product := whole
		if len(part) == n {
			mulHalves(whole, part, y, room)
		} else {
			product = mulWords(part, y)
		}
		addTo(z[i:], product)
	}
}

// roomFor is how many words mulHalves needs beside its arguments.
func roomFor(n int) int {
	if n < halvesFrom {
		return 0
	}
	h := (n + 1) / 2
	return max(6*h+1, 4*h+roomFor(h))
}

// mulHalves sets z to x times y, both of n words (the last may be 0), z of 2 n words (Karatsuba's way):
// with halves a, b of x and c, d of y, ad + bc is ac + bd - (a - b)(c - d).
func mulHalves(z, x, y, room []uint64) {
	n := len(x)
	if n < halvesFrom {
		clear(z)
		mulRows(z, x, y)
		return
	}
	h := (n + 1) / 2
	mulHalves(z[:2*h:2*h], x[:h:h], y[:h:h], room)
	mulHalves(z[2*h:], x[h:], y[h:], room)
	dx, dy, cross := room[:h:h], room[h:2*h:2*h], room[2*h:4*h:4*h]
	below := distance(dx, x[:h:h], x[h:]) != distance(dy, y[:h:h], y[h:])
	mulHalves(cross, dx, dy, room[4*h:])
	// The deeper calls are done with their room: the middle may lie there.
	middle := room[4*h : 6*h+1 : 6*h+1]
	clear(middle)
	copy(middle, z[:2*h])
	addTo(middle, z[2*h:])
	if below {
		addTo(middle, cross)
	} else {
		subFrom(middle, cross)
	}
	addTo(z[h:], front(middle, len(middle)))
}

// distance sets d, which has as many words as x, to x less y or to y less x, whichever is not below 0,
// and answers whether x is below y. y may be shorter than x.
func distance(d, x, y []uint64) bool {
	copy(d, x)
	if subFrom(d, y) == 0 {
		return false
	}
	// What stands there is 2^(64 n) too large: its opposite is what is asked.
	var c uint64
	for i := range d {
		d[i], c = bits.Sub64(0, d[i], c)
	}
	return true
}
