package fp

import (
	"math"
	"testing"

	"radicand/api"
)

// Mul, Div, Gcd and P3.2

func TestMul(t *testing.T) {
	d := draw{1}
	for _, p := range primes() {
		for range 200 {
			f, g := d.poly(p, 8), d.poly(p, 8)
			got, fault := Mul(f, g, p)
			want(t, "fault", fault, none)
			wantList(t, named(p, f, g), got, plainMul(f, g, p))
			wantForm(t, got, p)
		}
		for _, f := range [][]int{longest(p), d.monic(p, api.MaxPlaces)} {
			got, fault := Mul(f, longest(p), p)
			want(t, "fault", fault, none)
			want(t, "degree", len(got)-1, 2*api.MaxPlaces)
			wantList(t, named(p, f), got, plainMul(f, longest(p), p))
			got, _ = Mul(f, nil, p)
			want(t, "times 0", len(got), 0)
		}
	}
}

// longest is the polynomial of the greatest degree of which each coefficient is the greatest.
func longest(p int) []int {
	f := make([]int, api.MaxPlaces+1)
	for i := range f {
		f[i] = p - 1
	}
	return f
}

// wantDiv is a failure, if Div does not tell what the document says.
func wantDiv(t *testing.T, f, g []int, p int) {
	t.Helper()
	q, r, fault := Div(f, g, p)
	want(t, "fault", fault, none)
	wantForm(t, q, p)
	wantForm(t, r, p)
	want(t, "degree of the rest of "+named(p, f, g), len(r) < len(g), true)
	wantList(t, "f - q g of "+named(p, f, g), plainSub(f, plainMul(q, g, p), p), r)
}

func TestDiv(t *testing.T) {
	d := draw{2}
	for _, p := range primes() {
		for range 300 {
			f, g := d.poly(p, 12), d.nonzero(p, 7)
			wantDiv(t, f, g, p)
			wantDiv(t, f, []int{1 + d.below(p-1)}, p)
			wantDiv(t, plainMul(f, g, p), g, p)
		}
		for n := range api.MaxPlaces + 1 {
			wantDiv(t, longest(p), longest(p)[n:], p)
			wantDiv(t, longest(p)[n:], longest(p), p)
			wantDiv(t, d.monic(p, api.MaxPlaces), d.monic(p, n), p)
		}
		wantDiv(t, nil, []int{1}, p)
	}
}

func TestGcd(t *testing.T) {
	d := draw{3}
	for _, p := range primes() {
		for range 200 {
			a, b, c := d.poly(p, 5), d.poly(p, 5), d.poly(p, 5)
			f, g := plainMul(a, c, p), plainMul(b, c, p)
			got, fault := Gcd(f, g, p)
			want(t, "fault", fault, none)
			wantList(t, named(p, f, g), got, plainGcd(f, g, p))
			if len(got) == 0 {
				want(t, named(p, f, g), len(f)+len(g), 0)
				continue
			}
			want(t, "last", got[len(got)-1], 1)
			for _, h := range [][]int{f, g} {
				want(t, "rest of "+named(p, h, got), len(plainRest(h, got, p)), 0)
			}
			if len(c) > 0 {
				want(t, "rest of "+named(p, got, c), len(plainRest(got, c, p)), 0)
			}
		}
		f := longest(p)
		for _, g := range [][]int{nil, f} {
			got, _ := Gcd(f, g, p)
			wantList(t, "gcd with 0 or itself", got, plainMonic(f, p))
			got, _ = Gcd(g, f, p)
			wantList(t, "gcd of 0 or itself", got, plainMonic(f, p))
		}
		got, _ := Gcd(f, []int{p - 1}, p)
		wantList(t, "gcd with a number", got, []int{1})
	}
}

func TestPower(t *testing.T) {
	d := draw{4}
	for _, p := range primes() {
		for range 60 {
			f, m := d.poly(p, 9), d.nonzero(p, 6)
			product := []int{1}
			for n := range 12 {
				got, fault := Power(f, n, m, p)
				want(t, "fault", fault, none)
				wantForm(t, got, p)
				wantList(t, named(p, f, m), got, plainRest(product, m, p))
				product = plainMul(product, f, p)
			}
			n := int(d.next() >> (1 + d.below(60)))
			got, _ := Power(f, n, m, p)
			wantList(t, named(p, f, m), got, plainPower(f, n, m, p))
		}
		got, _ := Power(longest(p), math.MaxInt, d.monic(p, api.MaxPlaces), p)
		wantForm(t, got, p)
	}
}

func TestPowerAtItsEdges(t *testing.T) {
	m := []int{1, 1, 0, 1}
	for _, c := range []struct {
		f      []int
		n      int
		m      []int
		wanted []int
	}{
		{nil, 0, m, []int{1}}, {[]int{}, 0, []int{0, 1}, []int{1}}, {[]int{0, 1}, 0, m, []int{1}},
		{nil, 0, []int{1}, nil}, {[]int{0, 1}, 0, []int{1}, nil}, {[]int{0, 1}, 9, []int{1}, nil},
		{nil, 1, m, nil}, {nil, math.MaxInt, m, nil}, {[]int{0, 1}, 1, m, []int{0, 1}}, {m, 1, m, nil},
		{[]int{0, 1}, 8, m, []int{0, 1}}, {[]int{0, 1}, 3, m, []int{1, 1}},
		// 2^63 - 1 is a multiple of 7, and x^7 is 1.
		{[]int{0, 1}, math.MaxInt, m, []int{1}}, {[]int{0, 1}, math.MaxInt - 6, m, []int{0, 1}},
	} {
		got, fault := Power(c.f, c.n, c.m, 2)
		want(t, "fault", fault, none)
		wantList(t, named(2, c.f, c.m), got, c.wanted)
	}
	for _, p := range primes() {
		// Fermat, modulo x - 3 (x - 1, if p is 2 or 3): what is left is f at 3.
		for _, f := range [][]int{{0, 1}, {p - 1, 1, 1}, longest(p)} {
			m := []int{p - 3%p, 1}
			if p <= 3 {
				m = []int{p - 1, 1}
			}
			value := plainValue(f, p-m[0], p)
			got, _ := Power(f, p, m, p)
			wantList(t, named(p, f, m), got, trimmed([]int{value}))
		}
	}
}
