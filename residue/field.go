// Package residue reckons modulo primes of 63 bits, with polynomials too, and tells integers by what is left of
// them modulo many such primes. It keeps what is made on the way short where the answers alone are long.
package residue

import (
	"math/bits"

	"radicand/num"
)

// The primes are those below 2^63, the greatest first: what is left by one is an int.
const top = 1 << 63

// nearest is how far below top the first of them stand: most answers ask for no more, and to look for one takes
// longer than to use it.
var nearest = [...]uint64{25, 165, 259, 301, 375, 387, 391, 409, 457, 471, 517, 529, 549, 627, 649, 669,
	711, 735, 751, 849, 871, 891, 915, 1011, 1069, 1095, 1129, 1179, 1221, 1237, 1249, 1297}

// A Field is the numbers modulo a prime. They stand in it as 2^64 times themselves (Montgomery's way): then a
// product asks for no division.
type Field struct {
	prime uint64 // odd, between 2^62 and 2^63
	slope uint64 // what times the prime is -1 modulo 2^64
	one   uint64 // 2^64
	shift uint64 // 2^128
	rank  int    // how many primes of this package stand above it
}

// First is the field of the first of the primes.
func First() Field { return fieldOf(top-nearest[0], 0) }

// Next is the field of the prime below that of f.
func (f Field) Next() Field {
	rank := f.rank + 1
	if rank < len(nearest) {
		return fieldOf(top-nearest[rank], rank)
	}
	for n := f.prime - 2; ; n -= 2 {
		if hasSmallDivisor(n) {
			continue
		}
		if g := fieldOf(n, rank); g.isPrime() {
			return g
		}
	}
}

func hasSmallDivisor(n uint64) bool {
	return n%3 == 0 || n%5 == 0 || n%7 == 0 || n%11 == 0 || n%13 == 0 || n%17 == 0 || n%19 == 0 || n%23 == 0
}

// fieldOf is the numbers modulo m, which is odd and between 2^62 and 2^63.
func fieldOf(m uint64, rank int) Field {
	f := Field{prime: m, slope: m, rank: rank}
	// Each turn makes twice as many of the low bits right, beginning with 3.
	for range 5 {
		f.slope *= 2 - m*f.slope
	}
	f.slope = -f.slope
	f.one = bits.Rem64(1, 0, m)
	f.shift = bits.Rem64(f.one, 0, m)
	return f
}

// isPrime tells whether f's number is a prime: no composite of 64 bits is one to all of these bases (Sorenson and Webster).
func (f Field) isPrime() bool {
	s := bits.TrailingZeros64(f.prime - 1)
	for _, b := range [12]uint64{2, 3, 5, 7, 11, 13, 17, 19, 23, 29, 31, 37} {
		x := f.pow(f.mul(b, f.shift), int(f.prime>>s))
		if x == f.one {
			continue
		}
		for i := 1; i < s && x != f.prime-f.one; i++ {
			x = f.mul(x, x)
		}
		if x != f.prime-f.one {
			return false
		}
	}
	return true
}

// least is a, which is below twice the prime, modulo the prime.
func (f Field) least(a uint64) uint64 {
	if a >= f.prime {
		return a - f.prime
	}
	return a
}

// mul is a times b over 2^64, for an a below 2^63 and a b below the prime.
func (f Field) mul(a, b uint64) uint64 {
	hi, lo := bits.Mul64(a, b)
	over, low := bits.Mul64(lo*f.slope, f.prime)
	_, c := bits.Add64(lo, low, 0)
	return f.least(hi + over + c)
}

func (f Field) sub(a, b uint64) uint64 {
	d, c := bits.Sub64(a, b, 0)
	return d + f.prime&-c
}

// pow is a to the n, which is not below 0.
func (f Field) pow(a uint64, n int) uint64 {
	p := f.one
	for i := bits.Len(uint(n)) - 1; i >= 0; i-- {
		p = f.mul(p, p)
		if n>>i&1 == 1 {
			p = f.mul(p, a)
		}
	}
	return p
}

// inverse is 1 over a, which is not 0.
func (f Field) inverse(a uint64) uint64 { return f.pow(a, int(f.prime-2)) }

// Of is what is left of a.
func (f Field) Of(a num.Int) uint64 {
	_, r, _ := a.Div(num.Of(int(f.prime)))
	n, _ := r.Small()
	return f.mul(uint64(n), f.shift)
}

// plain is a as a number from 0 on below the prime.
func (f Field) plain(a uint64) uint64 { return f.mul(a, 1) }
