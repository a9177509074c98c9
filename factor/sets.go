package factor

import (
	"iter"
	"math/bits"
)

// A set of numbers from 0 on has the bit of each of them.
type set uint

// only is the set of just that number.
func only(n int) set { return 1 << n }

// below is the set of all numbers from 0 on below n.
func below(n int) set { return only(n) - 1 }

// size is how many numbers are in s.
func (s set) size() int { return bits.OnesCount(uint(s)) }

// has tells whether n is in s.
func (s set) has(n int) bool { return s&only(n) != 0 }

// each goes through the numbers in s, rising.
func (s set) each() iter.Seq[int] {
	return func(yield func(int) bool) {
		for t := s; t != 0; t &= t - 1 {
			if !yield(bits.TrailingZeros(uint(t))) {
				return
			}
		}
	}
}

// following is the next one above s, which is not empty, with as many numbers: of the lowest ones without a gap the
// highest goes up by one, the others go down to 0 and on (Gosper's way).
func (s set) following() set {
	low := s & -s
	high := s + low
	return high | (s^high)/low>>2
}

// halves goes through the sets that have some of what is in left, but at most half of it, small ones first. What is
// taken out of left on the way is in none of those that are still to come.
func halves(left *set) iter.Seq[set] {
	return func(yield func(set) bool) {
		end := only(bits.Len(uint(*left)))
		for n := 1; 2*n <= left.size(); n++ {
			for s := below(n); s < end && 2*n <= left.size(); s = s.following() {
				if s&^*left == 0 && !yield(s) {
					return
				}
			}
		}
	}
}
