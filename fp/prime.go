package fp

import (
	"math/bits"

	"radicand/api"
)

// isPrime tells whether n is a prime, at most MaxPrime. No composite below 3215031751 is one to all of these bases
// (Pomerance, Selfridge and Wagstaff).
func isPrime(n int) bool {
	if n < 2 || n > api.MaxPrime {
		return false
	}
	for _, b := range [4]int{2, 3, 5, 7} {
		if n%b == 0 {
			return n == b
		}
	}
	for _, b := range [4]int{2, 3, 5, 7} {
		if !seemsPrime(n, b) {
			return false
		}
	}
	return true
}

// seemsPrime tells whether n, which is odd, is a prime to the base b (Miller's way).
func seemsPrime(n, b int) bool {
	k := fieldOf(n)
	twos := bits.TrailingZeros(uint(n - 1))
	x := k.raise(b, (n-1)>>twos)
	if x == 1 {
		return true
	}
	for i := 1; i < twos && x != n-1; i++ {
		x = k.least(x * x)
	}
	return x == n-1
}
