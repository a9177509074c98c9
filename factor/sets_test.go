package factor

import (
	"slices"
	"testing"
)

func TestSets(t *testing.T) {
	s := only(0) | only(3) | only(15)
	want(t, "size", s.size(), 3)
	want(t, "numbers", slices.Equal(slices.Collect(s.each()), []int{0, 3, 15}), true)
	want(t, "again", slices.Equal(slices.Collect(s.each()), []int{0, 3, 15}), true)
	want(t, "none", len(slices.Collect(set(0).each())), 0)
	want(t, "below", below(4), only(0)|only(1)|only(2)|only(3))
	for i := range 17 {
		want(t, "has", s.has(i), i == 0 || i == 3 || i == 15)
	}
	for i := range s.each() {
		want(t, "the first alone", i, 0)
		break
	}
}

// Each set of at most half of the numbers is there once, small ones first.
func TestHalves(t *testing.T) {
	for n := range 14 {
		left := below(n)
		seen := make([]bool, 1<<n)
		last, count := 1, 0
		for s := range halves(&left) {
			want(t, "once", seen[s], false)
			want(t, "size", s.size() >= last && 2*s.size() <= n, true)
			seen[s], last = true, s.size()
			count++
		}
		wanted := 0
		for s := range 1 << n {
			if size := set(s).size(); size > 0 && 2*size <= n {
				wanted++
			}
		}
		want(t, "how many", count, wanted)
	}
}

// What is taken out is in no set that follows, and no set is more than half of what is left.
func TestHalvesOfLess(t *testing.T) {
	for n := 2; n < 13; n++ {
		for size := 1; size <= n/2; size++ {
			left := below(n)
			for s := range halves(&left) {
				want(t, "out of what is left", s&^left, 0)
				want(t, "half", 2*s.size() <= left.size(), true)
				if s.size() == size {
					left &^= s
				}
			}
			want(t, "left", left.size() >= size && left.size() < 2*size, true)
		}
	}
	left := below(9)
	for s := range halves(&left) {
		want(t, "the first alone", s, only(0))
		break
	}
}
