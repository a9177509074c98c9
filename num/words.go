package num

import (
	"cmp"
	"math/bits"
)

// A magnitude is a list of words, the lowest first, of which the last is not 0; 0 has none.

// front is the magnitude that the first n words of w make. It shares them, and can grow no further:
// what is appended to it never runs into the words that w has behind them.
func front(w []uint64, n int) []uint64 {
	n = min(n, len(w))
	for n > 0 && w[n-1] == 0 {
		n--
	}
	return w[:n:n]
}

// back is the magnitude that the words of w from n on make; it shares them.
func back(w []uint64, n int) []uint64 {
	return front(w[n:], len(w))
}

func cmpWords(x, y []uint64) int {
	if len(x) != len(y) {
		return cmp.Compare(len(x), len(y))
	}
	for i := len(x) - 1; i >= 0; i-- {
		if x[i] != y[i] {
			return cmp.Compare(x[i], y[i])
		}
	}
	return 0
}

// bitLen is how many bits a magnitude has that has words.
func bitLen(w []uint64) int {
	return len(w)*64 - bits.LeadingZeros64(w[len(w)-1])
}

// addTo adds x to the number that z's words make; z must have room for the sum.
func addTo(z, x []uint64) {
	var c uint64
	for i, d := range x {
		z[i], c = bits.Add64(z[i], d, c)
	}
	for i := len(x); c != 0 && i < len(z); i++ {
		z[i], c = bits.Add64(z[i], 0, c)
	}
}

// subFrom takes x from the number that z's words make, and answers what it had to borrow from behind z:
// 0, if that number is not below x.
func subFrom(z, x []uint64) uint64 {
	var c uint64
	for i, d := range x {
		z[i], c = bits.Sub64(z[i], d, c)
	}
	for i := len(x); c != 0 && i < len(z); i++ {
		z[i], c = bits.Sub64(z[i], 0, c)
	}
	return c
}

func addWords(x, y []uint64) []uint64 {
	if len(x) < len(y) {
		x, y = y, x
	}
	z := make([]uint64, len(x)+1)
	copy(z, x)
	addTo(z, y)
	return front(z, len(z))
}

// subWords is x less y, which must not be above x.
func subWords(x, y []uint64) []uint64 {
	z := make([]uint64, len(x))
	copy(z, x)
	subFrom(z, y)
	return front(z, len(z))
}

// join is hi times 2^(64 k), and lo, which has at most k words.
func join(lo, hi []uint64, k int) []uint64 {
	if len(hi) == 0 {
		return lo
	}
	z := make([]uint64, k+len(hi))
	copy(z, lo)
	copy(z[k:], hi)
	return z
}

// shiftLeft is x times 2^n.
func shiftLeft(x []uint64, n int) []uint64 {
	k := n / 64
	z := make([]uint64, len(x)+k+1)
	moveUp(z[k:], x, uint(n%64))
	return front(z, len(z))
}

// moveUp sets z, which has a word more than x, to x times 2^s, where s is below 64.
func moveUp(z, x []uint64, s uint) {
	var below uint64
	for i, d := range x {
		z[i] = d<<s | below
		below = d >> (64 - s)
	}
	z[len(x)] = below
}

// lowBits is what is left of x divided by 2^n, which is not above x.
func lowBits(x []uint64, n int) []uint64 {
	k := n / 64
	z := make([]uint64, k+1)
	copy(z, x)
	z[k] &= 1<<(n%64) - 1
	return front(z, len(z))
}

// isTwoTo tells whether a magnitude that has words is a power of 2. (Such numbers are what much is multiplied by, or
// divided by, where others are rounded.)
func isTwoTo(w []uint64) bool {
	last := len(w) - 1
	if w[last]&(w[last]-1) != 0 {
		return false
	}
	for _, d := range w[:last] {
		if d != 0 {
			return false
		}
	}
	return true
}

// shiftRight is the quotient of x and 2^n.
func shiftRight(x []uint64, n int) []uint64 {
	k := n / 64
	if k >= len(x) {
		return nil
	}
	z := make([]uint64, len(x)-k)
	moveDown(z, x[k:], uint(n%64))
	return front(z, len(z))
}

// moveDown sets z, which has as many words as x and may be x, to the quotient of x and 2^s, where s is below 64.
func moveDown(z, x []uint64, s uint) {
	var above uint64
	for i := len(x) - 1; i >= 0; i-- {
		d := x[i]
		z[i] = d>>s | above
		above = d << (64 - s)
	}
}
