package fp

import (
	"slices"
	"testing"

	"radicand/api"
)

// Roots

// wantRoots is a failure, if Roots does not answer so.
func wantRoots(t *testing.T, f []int, p int, wanted []int) {
	t.Helper()
	got, fault := Roots(f, p)
	want(t, "fault of "+named(p, f), fault, none)
	wantList(t, named(p, f), got, wanted)
}

func TestRoots(t *testing.T) {
	for _, c := range []struct {
		f      []int
		p      int
		wanted []int
	}{
		{[]int{1, 0, 1}, 5, []int{2, 3}}, {[]int{1, 0, 1}, 3, nil}, {[]int{1, 0, 1}, 2, []int{1}}, {[]int{0, 1, 1}, 2, []int{0, 1}},
		{[]int{1, 1, 1}, 2, nil}, {[]int{1}, 2, nil}, {[]int{6}, 7, nil}, {[]int{0, 3}, 7, []int{0}}, {[]int{3, 4}, 5, []int{3}},
		{[]int{0, 0, 0, 2}, 3, []int{0}}, {[]int{1, 0, 1}, 65537, []int{256, 65281}},
		{[]int{greatest - 1, 0, 1}, greatest, []int{1, greatest - 1}}, {[]int{1, 0, 1}, 1073741783, nil},
	} {
		wantRoots(t, c.f, c.p, c.wanted)
	}
}

// Of many polynomials, by their values.
func TestRootsAreWhereItIsZero(t *testing.T) {
	d := draw{8}
	for _, p := range []int{2, 3, 5, 7, 11, 13, 31, 61, 67, 127, 257} {
		for i := range 150 {
			f := d.nonzero(p, 9)
			if i%10 == 0 {
				f = d.nonzero(p, api.MaxPlaces)
			}
			var wanted []int
			for x := range p {
				if plainValue(f, x, p) == 0 {
					wanted = append(wanted, x)
				}
			}
			wantRoots(t, f, p, wanted)
		}
	}
}

// All pairs, modulo small primes, and all numbers: two are told apart, however alike they are.
func TestRootsOfAllPairs(t *testing.T) {
	for _, p := range []int{2, 3, 5, 7, 11, 13, 17, 19, 23, 29, 31, 37, 41, 43, 47, 53, 59, 61} {
		all, roots := []int{1}, []int{}
		for b := range p {
			all, roots = plainMul(all, []int{(p - b) % p, 1}, p), append(roots, b)
			wantRoots(t, all, p, roots)
			for a := range b {
				f := plainMul([]int{p - b, 1}, []int{(p - a) % p, 1}, p)
				wantRoots(t, f, p, []int{a, b})
			}
		}
	}
}

func TestRootsModuloLongPrimes(t *testing.T) {
	d := draw{9}
	for _, p := range primes() {
		for range 4 {
			f := []int{1 + d.below(p-1)}
			var wanted []int
			for len(f) < 40 {
				r := d.number(p)
				wanted = append(wanted, r)
				for range 1 + d.below(3) {
					f = plainMul(f, []int{(p - r) % p, 1}, p)
				}
			}
			// What has no root changes nothing.
			for _, n := range []int{2, 3, 5} {
				if g := d.monic(p, n); plainIrreducible(g, p) {
					f = plainMul(f, g, p)
				}
			}
			slices.Sort(wanted)
			wantRoots(t, f, p, slices.Compact(wanted))
		}
	}
}

// The numbers from 0 on, as many as there is place for, all of one kind, or close together.
func TestRootsInRows(t *testing.T) {
	for _, p := range []int{67, 257, 65537, 998244353, greatest} {
		for _, step := range []int{1, 2, p - 1, p / 2, 3} {
			f := []int{1}
			var wanted []int
			for r := 0; len(f) <= api.MaxPlaces; r = (r + step) % p {
				f = plainMul(f, []int{(p - r) % p, 1}, p)
				wanted = append(wanted, r)
			}
			slices.Sort(wanted)
			wantRoots(t, f, p, wanted)
		}
		f := []int{1}
		var wanted []int
		for r := 1; len(f) <= api.MaxPlaces; r++ {
			f = plainMul(f, []int{p - r*r%p, 1}, p)
			wanted = append(wanted, r*r%p)
		}
		slices.Sort(wanted)
		wantRoots(t, f, p, slices.Compact(wanted))
	}
}
