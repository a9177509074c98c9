package fp

import (
	"fmt"
	"slices"
	"testing"

	"radicand/api"
)

// want is a failure, if what is told is not what is wanted.
func want[T comparable](t *testing.T, what string, got, wanted T) {
	t.Helper()
	if got != wanted {
		t.Fatalf("%s: got %v, want %v", what, got, wanted)
	}
}

func wantList(t *testing.T, what string, got, wanted []int) {
	t.Helper()
	if !slices.Equal(got, wanted) {
		t.Fatalf("%s: got %v, want %v", what, got, wanted)
	}
}

func fault(code, at int) api.Fault { return api.Fault{Code: code, At: at} }

var none = api.Fault{}

// named is what a failure tells of polynomials modulo p.
func named(p int, fs ...[]int) string { return fmt.Sprint(fs, " modulo ", p) }

// wantForm is a failure, if a list is no polynomial modulo p.
func wantForm(t *testing.T, f []int, p int) {
	t.Helper()
	for _, c := range f {
		want(t, named(p, f), c >= 0 && c < p, true)
	}
	want(t, named(p, f), len(f) == 0 || f[len(f)-1] != 0, true)
}

const (
	greatest = 1073741789 // the greatest prime below 2^30
	next     = 1073741827 // the one behind it
)

// primes is some: the least, those about MaxPlaces, and long ones.
func primes() []int {
	return []int{2, 3, 5, 7, 11, 13, 31, 61, 67, 127, 257, 65537, 998244353, 1073741783, greatest}
}

// A draw gives polynomials, the same ones each time.
type draw struct{ state uint64 }

func (d *draw) next() uint64 {
	d.state += 0x9e3779b97f4a7c15
	z := d.state
	z = (z ^ z>>30) * 0xbf58476d1ce4e5b9
	z = (z ^ z>>27) * 0x94d049bb133111eb
	return z ^ z>>31
}

func (d *draw) below(n int) int { return int(d.next() % uint64(n)) }

// number is one modulo p, 0, 1 and p - 1 among them more often.
func (d *draw) number(p int) int {
	switch d.below(8) {
	case 0:
		return 0
	case 1:
		return 1
	case 2:
		return p - 1
	}
	return d.below(p)
}

// monic is a monic polynomial of degree n.
func (d *draw) monic(p, n int) []int {
	f := make([]int, n+1)
	for i := range f {
		f[i] = d.number(p)
	}
	f[n] = 1
	return f
}

// poly is a polynomial of degree n at most.
func (d *draw) poly(p, n int) []int {
	f := make([]int, d.below(n+2))
	for i := range f {
		f[i] = d.number(p)
	}
	return trimmed(f)
}

// nonzero is a polynomial of degree n at most that is not 0.
func (d *draw) nonzero(p, n int) []int {
	for {
		if f := d.poly(p, n); len(f) > 0 {
			return f
		}
	}
}

// The ways below are the plainest ones, to hold the package's ways against.

func trimmed(f []int) []int {
	for len(f) > 0 && f[len(f)-1] == 0 {
		f = f[:len(f)-1]
	}
	return f
}

func plainMul(f, g []int, p int) []int {
	h := make([]int, len(f)+len(g))
	for i, a := range f {
		for j, b := range g {
			h[i+j] = (h[i+j] + a*b) % p
		}
	}
	return trimmed(h)
}

func plainSub(f, g []int, p int) []int {
	h := make([]int, max(len(f), len(g)))
	copy(h, f)
	for i, b := range g {
		h[i] = (h[i] - b + p) % p
	}
	return trimmed(h)
}

// plainOver is 1 over a, by Fermat.
func plainOver(a, p int) int {
	x := 1
	for n := p - 2; n > 0; n /= 2 {
		if n%2 == 1 {
			x = x * a % p
		}
		a = a * a % p
	}
	return x
}

func plainRest(f, g []int, p int) []int {
	f = trimmed(slices.Clone(f))
	over := plainOver(g[len(g)-1], p)
	for len(f) >= len(g) {
		c := f[len(f)-1] * over % p
		for j, b := range g {
			i := len(f) - len(g) + j
			f[i] = (f[i] + (p-c)*b) % p
		}
		f = trimmed(f)
	}
	return f
}

func plainMonic(f []int, p int) []int {
	if len(f) == 0 {
		return nil
	}
	return plainMul(f, []int{plainOver(f[len(f)-1], p)}, p)
}

func plainGcd(f, g []int, p int) []int {
	for len(g) > 0 {
		f, g = g, plainRest(f, g, p)
	}
	return plainMonic(f, p)
}

func plainPower(f []int, n int, m []int, p int) []int {
	x := plainRest([]int{1}, m, p)
	for f = plainRest(f, m, p); n > 0; n /= 2 {
		if n%2 == 1 {
			x = plainRest(plainMul(x, f, p), m, p)
		}
		f = plainRest(plainMul(f, f, p), m, p)
	}
	return x
}

// plainIrreducible tells it by what the chapter says follows: a product has an irreducible factor of at most half
// its degree, and that one has a common divisor with x to the p to that degree less x.
func plainIrreducible(f []int, p int) bool {
	if len(f) < 2 {
		return false
	}
	x := []int{0, 1}
	h := x
	for n := 1; n <= (len(f)-1)/2; n++ {
		h = plainPower(h, p, f, p)
		if len(plainGcd(f, plainSub(h, x, p), p)) > 1 {
			return false
		}
	}
	return true
}

// plainValue is f at x.
func plainValue(f []int, x, p int) int {
	v := 0
	for i := len(f) - 1; i >= 0; i-- {
		v = (v*x + f[i]) % p
	}
	return v
}

// plainPrime tells it by divisors.
func plainPrime(n int) bool {
	for i := 2; i*i <= n; i++ {
		if n%i == 0 {
			return false
		}
	}
	return n > 1
}
