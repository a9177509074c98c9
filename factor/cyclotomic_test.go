package factor

import (
	"math"
	"testing"

	"radicand/api"
)

// P4.3

func TestCyclotomic(t *testing.T) {
	for _, c := range []struct {
		n      int
		wanted string
	}{{1, "-1 1"}, {2, "1 1"}, {3, "1 1 1"}, {4, "1 0 1"}, {6, "1 -1 1"}, {8, "1 0 0 0 1"}, {9, "1 0 0 1 0 0 1"}, {12, "1 0 -1 0 1"},
		{15, "1 -1 0 1 -1 1 0 -1 1"}, {20, "1 0 -1 0 1 0 -1 0 1"}, {30, "1 1 0 -1 -1 -1 0 1 1"}} {
		p, f := Cyclotomic(c.n)
		want(t, "fault", f, none)
		want(t, "cyclotomic", told(p), c.wanted)
	}
	p, _ := Cyclotomic(105)
	want(t, "the first with a 2", p.At(7).Text(), "-2")
}

// x^n - 1 is the product of those of all numbers that divide n, for each n.
func TestCyclotomicProducts(t *testing.T) {
	for n := 1; n <= api.MaxDegree; n++ {
		p := of(1)
		for d := 1; d <= n; d++ {
			if n%d == 0 {
				c, f := Cyclotomic(d)
				want(t, "fault", f, none)
				p = p.Mul(c)
			}
		}
		want(t, "product", told(p), told(power(n).Sub(of(1))))
	}
}

// Cyclotomic polynomials are irreducible.
func TestCyclotomicIsIrreducible(t *testing.T) {
	n := 0
	for i := 1; i <= api.MaxDegree; i++ {
		p, _ := Cyclotomic(i)
		is, f := Irreducible(p)
		if p.Degree() > api.MaxFactor {
			want(t, "fault", f, fault(api.ErrMany, 0))
			continue
		}
		n++
		want(t, "fault", f, none)
		want(t, told(p), is, true)
	}
	want(t, "how many of them", n, 32)
}

func TestCyclotomicFaults(t *testing.T) {
	for _, n := range []int{0, -1, -6, api.MaxDegree + 1, math.MaxInt, math.MinInt} {
		p, f := Cyclotomic(n)
		want(t, "fault", f, fault(api.ErrRange, 0))
		want(t, "degree", p.Degree(), -1)
	}
}
