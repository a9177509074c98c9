package fp

import (
	"math"
	"slices"
	"testing"

	"radicand/api"
)

// P3.1, and the faults of all calls

func TestCheckPrime(t *testing.T) {
	for _, p := range primes() {
		want(t, named(p), Check(nil, p), none)
	}
	for _, p := range []int{math.MinInt, -greatest, -7, -2, -1, 0, 1, 4, 9, 1 << 29, api.MaxPrime, greatest + 2, next,
		1<<31 - 1, 1<<61 - 1, 1<<62 + 1, math.MaxInt, 32749 * 32719, 32749 * 32749,
		// Composites that look like primes to one base or some.
		2047, 1373653, 25326001, 561, 1729, 2821, 8911, 3215031751} {
		want(t, named(p), Check(nil, p), fault(api.ErrPrime, 0))
	}
}

func TestCheckAllPrimesOfSomeRanges(t *testing.T) {
	for _, from := range []int{-10, 65536 - 500, 25326001 - 500, api.MaxPrime - 1000} {
		for p := from; p < from+3000; p++ {
			wanted := fault(api.ErrPrime, 0)
			if p <= api.MaxPrime && plainPrime(p) {
				wanted = none
			}
			want(t, named(p), Check([]int{0, 1}, p), wanted)
		}
	}
}

// ones is a list of n times 1.
func ones(n int) []int { return slices.Repeat([]int{1}, n) }

func TestCheck(t *testing.T) {
	long := ones(api.MaxPlaces + 2)
	for _, c := range []struct {
		f      []int
		p      int
		wanted api.Fault
	}{
		{nil, 2, none}, {[]int{}, 2, none}, {[]int{1}, 2, none}, {[]int{0, 0, 4}, 5, none}, {[]int{4, 3, 2, 1}, 5, none},
		{[]int{greatest - 1, 1}, greatest, none}, {ones(api.MaxPlaces + 1), 3, none},
		{long, 3, fault(api.ErrMany, 0)}, {make([]int, 5000), 3, fault(api.ErrMany, 0)},
		{append(ones(api.MaxPlaces+1), 0), 3, fault(api.ErrMany, 0)},
		{[]int{5}, 5, fault(api.ErrRange, 0)}, {[]int{-1}, 5, fault(api.ErrRange, 0)}, {[]int{1, 5, 1}, 5, fault(api.ErrRange, 1)},
		{[]int{0, 4, 6, -1, 1}, 5, fault(api.ErrRange, 2)}, {[]int{1, 0, math.MinInt}, 5, fault(api.ErrRange, 2)},
		{[]int{1, 0, math.MaxInt}, 5, fault(api.ErrRange, 2)}, {[]int{greatest}, greatest, fault(api.ErrRange, 0)},
		{[]int{0}, 5, fault(api.ErrForm, 0)}, {[]int{1, 0}, 5, fault(api.ErrForm, 1)}, {[]int{1, 2, 0, 0}, 5, fault(api.ErrForm, 3)},
		// The order.
		{long, 4, fault(api.ErrPrime, 0)}, {[]int{1, 7, 0}, 4, fault(api.ErrPrime, 0)}, {[]int{1, 0}, next, fault(api.ErrPrime, 0)},
		{append([]int{9}, long...), 3, fault(api.ErrMany, 0)}, {[]int{1, 7, 0}, 5, fault(api.ErrRange, 1)},
		{[]int{-1, 0}, 5, fault(api.ErrRange, 0)},
	} {
		want(t, named(c.p, c.f), Check(c.f, c.p), c.wanted)
	}
}

// calls is all calls that take one polynomial or two, as functions of two that answer the fault, and whether all
// else is zero or empty.
func calls(p int) map[string]func(f, g []int) (api.Fault, bool) {
	return map[string]func(f, g []int) (api.Fault, bool){
		"Mul": func(f, g []int) (api.Fault, bool) {
			l, fault := Mul(f, g, p)
			return fault, len(l) == 0
		},
		"Div": func(f, g []int) (api.Fault, bool) {
			q, r, fault := Div(f, g, p)
			return fault, len(q)+len(r) == 0
		},
		"Gcd": func(f, g []int) (api.Fault, bool) {
			l, fault := Gcd(f, g, p)
			return fault, len(l) == 0
		},
		"Power": func(f, g []int) (api.Fault, bool) {
			l, fault := Power(f, 3, g, p)
			return fault, len(l) == 0
		},
		// A power below 0 is not seen ahead of what is wrong with the polynomials.
		"Power below 0": func(f, g []int) (api.Fault, bool) {
			l, fault := Power(f, -1, g, p)
			return fault, len(l) == 0
		},
		"Factor": func(f, _ []int) (api.Fault, bool) {
			k, l, fault := Factor(f, p)
			return fault, k == 0 && len(l) == 0
		},
		"Irreducible": func(f, _ []int) (api.Fault, bool) {
			is, fault := Irreducible(f, p)
			return fault, !is
		},
		"Roots": func(f, _ []int) (api.Fault, bool) {
			l, fault := Roots(f, p)
			return fault, len(l) == 0
		},
	}
}

func TestAllCallsHaveTheFaultsOfCheck(t *testing.T) {
	good := []int{0, 1}
	for _, p := range []int{-3, 0, 1, 2, 4, 5, 65536, greatest, next, math.MaxInt, math.MinInt} {
		bad := [][]int{ones(api.MaxPlaces + 2), {-1}, {1, p, 1}, {1, 0}, {0}, append(make([]int, 70), 1)}
		for name, call := range calls(p) {
			for i, f := range bad {
				got, empty := call(f, good)
				want(t, name+" of "+named(p, f), got, Check(f, p))
				want(t, name+" of "+named(p, f), empty, true)
				if name == "Factor" || name == "Irreducible" || name == "Roots" {
					continue
				}
				wanted := Check(f, p)
				got, empty = call(good, f)
				want(t, name+" of "+named(p, good, f), got, wanted)
				want(t, name+" of "+named(p, good, f), empty, true)
				both := bad[(i+1)%len(bad)]
				got, _ = call(both, f)
				want(t, name+" of "+named(p, both, f), got, Check(both, p))
			}
		}
	}
}

// Faults that a call has of its own, and that of 0.
func TestOwnFaults(t *testing.T) {
	for _, p := range primes() {
		for _, f := range [][]int{nil, {}, {1}, {0, 1}, ones(api.MaxPlaces + 1)} {
			q, r, got := Div(f, nil, p)
			want(t, "Div by 0", got, fault(api.ErrZero, 0))
			want(t, "Div by 0", len(q)+len(r), 0)
			for _, c := range []struct {
				n      int
				m      []int
				wanted api.Fault
			}{{-1, []int{0, 1}, fault(api.ErrRange, 0)}, {math.MinInt, []int{1}, fault(api.ErrRange, 0)},
				{-1, nil, fault(api.ErrRange, 0)}, {0, nil, fault(api.ErrZero, 0)}, {7, []int{}, fault(api.ErrZero, 0)}} {
				l, got := Power(f, c.n, c.m, p)
				want(t, "Power of "+named(p, f, c.m), got, c.wanted)
				want(t, "Power", len(l), 0)
			}
		}
		k, l, got := Factor(nil, p)
		want(t, "Factor of 0", got, fault(api.ErrZero, 0))
		want(t, "Factor of 0", k == 0 && len(l) == 0, true)
		roots, got := Roots([]int{}, p)
		want(t, "Roots of 0", got, fault(api.ErrZero, 0))
		want(t, "Roots of 0", len(roots), 0)
		is, got := Irreducible(nil, p)
		want(t, "Irreducible of 0", got, none)
		want(t, "Irreducible of 0", is, false)
		g, got := Gcd(nil, []int{}, p)
		want(t, "Gcd of 0 and 0", got, none)
		want(t, "Gcd of 0 and 0", len(g), 0)
	}
}
