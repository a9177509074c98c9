package fp

import (
	"fmt"
	"slices"
	"testing"

	"radicand/api"
)

// P3.3, Irreducible, and what follows

// byNumber is the polynomial whose coefficients are the digits of n to the base p.
func byNumber(n, p int) []int {
	var f []int
	for ; n > 0; n /= p {
		f = append(f, n%p)
	}
	return f
}

// irreducibles is all monic irreducible polynomials of degree n at most, in order: no divisor of a lower degree is
// one of them.
func irreducibles(p, n int) [][]int {
	var l [][]int
	for from := p; n > 0; from, n = from*p, n-1 {
		for i := range from {
			f := byNumber(from+i, p)
			if !slices.ContainsFunc(l, func(g []int) bool { return 2*(len(g)-1) < len(f) && len(plainRest(f, g, p)) == 0 }) {
				l = append(l, f)
			}
		}
	}
	return l
}

// plainFactor is what Factor answers of f, if all its factors are among those.
func plainFactor(f []int, p int, among [][]int) (int, []api.Split) {
	var l []api.Split
	for _, g := range among {
		n := 0
		for ; len(f) >= len(g) && len(plainRest(f, g, p)) == 0; n++ {
			f = plainQuotient(f, g, p)
		}
		if n > 0 {
			l = append(l, api.Split{F: g, N: n})
		}
	}
	return f[0], l
}

// plainQuotient is f over the monic g, which divides it.
func plainQuotient(f, g []int, p int) []int {
	q := make([]int, len(f)-len(g)+1)
	for len(f) >= len(g) {
		n := len(f) - len(g)
		q[n] = f[len(f)-1]
		step := make([]int, n+1)
		step[n] = q[n]
		f = plainSub(f, plainMul(step, g, p), p)
	}
	return q
}

func toldFactor(k int, l []api.Split) string { return fmt.Sprint(k, l) }

// wantFactor is a failure, if Factor does not answer so.
func wantFactor(t *testing.T, f []int, p int, wanted string) {
	t.Helper()
	k, l, got := Factor(f, p)
	want(t, "fault of "+named(p, f), got, none)
	want(t, named(p, f), toldFactor(k, l), wanted)
}

func TestFactor(t *testing.T) {
	for _, c := range []struct {
		f      []int
		p      int
		wanted string
	}{
		{[]int{1, 0, 1, 0, 1}, 2, "1 [{[1 1 1] 2}]"}, {[]int{3, 0, 2}, 5, "2 [{[1 1] 1} {[4 1] 1}]"},
		{[]int{1}, 2, "1 []"}, {[]int{3}, 5, "3 []"}, {[]int{0, 1}, 2, "1 [{[0 1] 1}]"}, {[]int{1, 1}, 2, "1 [{[1 1] 1}]"},
		{[]int{4, 3}, 5, "3 [{[3 1] 1}]"}, {[]int{0, 0, 0, 6}, 7, "6 [{[0 1] 3}]"}, {[]int{1, 0, 1}, 2, "1 [{[1 1] 2}]"},
		{[]int{0, 1, 1}, 2, "1 [{[0 1] 1} {[1 1] 1}]"}, {[]int{1, 0, 0, 0, 1}, 3, "1 [{[2 1 1] 1} {[2 2 1] 1}]"},
		{[]int{greatest - 1, 0, 1}, greatest, fmt.Sprintf("1 [{[1 1] 1} {[%d 1] 1}]", greatest-1)},
		// The highest coefficient in which they differ comes first: not the lowest.
		{plainMul([]int{2, 1, 1}, []int{1, 0, 1}, 3), 3, "1 [{[1 0 1] 1} {[2 1 1] 1}]"},
		{plainMul([]int{1, 1, 0, 1}, []int{1, 0, 1, 1}, 2), 2, "1 [{[1 1 0 1] 1} {[1 0 1 1] 1}]"},
		// Lower degrees first, however often.
		{plainMul([]int{1, 1, 1}, []int{1, 0, 1}, 2), 2, "1 [{[1 1] 2} {[1 1 1] 1}]"},
	} {
		wantFactor(t, c.f, c.p, c.wanted)
	}
}

// All polynomials of low degrees, by their divisors.
func TestFactorAndIrreducibleOfAll(t *testing.T) {
	for _, c := range [][2]int{{2, 11}, {3, 7}, {5, 4}, {7, 3}, {11, 3}, {13, 3}} {
		p, degree := c[0], c[1]
		among := irreducibles(p, degree)
		end := 1
		for range degree + 1 {
			end *= p
		}
		for i := 1; i < end; i++ {
			f := byNumber(i, p)
			k, l := plainFactor(f, p, among)
			wantFactor(t, f, p, toldFactor(k, l))
			is, got := Irreducible(f, p)
			want(t, "fault", got, none)
			want(t, named(p, f), is, len(l) == 1 && l[0].N == 1)
		}
	}
}

// Of degree n there are as many irreducible ones as it takes for p^n to be the sum, over all d that divide n, of d
// times those of degree d.
func TestNumberOfIrreducibles(t *testing.T) {
	for _, c := range [][2]int{{2, 12}, {3, 7}, {5, 5}, {17, 3}, {97, 2}} {
		p, most := c[0], c[1]
		count := make([]int, most+1)
		from := 1
		for n := 1; n <= most; n++ {
			from *= p
			for i := range from {
				if is, _ := Irreducible(byNumber(from+i, p), p); is {
					count[n]++
				}
			}
			sum := 0
			for d := 1; d <= n; d++ {
				if n%d == 0 {
					sum += d * count[d]
				}
			}
			want(t, fmt.Sprint("degree ", n, " modulo ", p), sum, from)
		}
	}
}

// wantFactors is a failure, if Factor does not tell what the document says of f.
func wantFactors(t *testing.T, f []int, p int) []api.Split {
	t.Helper()
	k, l, got := Factor(f, p)
	want(t, "fault", got, none)
	want(t, "last", k, f[len(f)-1])
	product := []int{k}
	for i, s := range l {
		wantForm(t, s.F, p)
		want(t, "monic: "+named(p, f), s.F[len(s.F)-1], 1)
		want(t, "times: "+named(p, f), s.N > 0, true)
		want(t, "irreducible: "+named(p, s.F), plainIrreducible(s.F, p), true)
		want(t, "order: "+named(p, f), i == 0 || stands(l[i-1].F, s.F), true)
		for range s.N {
			product = plainMul(product, s.F, p)
		}
	}
	wantList(t, "product", product, f)
	is, _ := Irreducible(f, p)
	want(t, named(p, f), is, len(l) == 1 && l[0].N == 1)
	return l
}

// stands tells whether f stands ahead of g, both monic.
func stands(f, g []int) bool {
	if len(f) != len(g) {
		return len(f) < len(g)
	}
	d := slices.Clone(f)
	for i := range d {
		d[i] -= g[i]
	}
	d = trimmed(d)
	return len(d) > 0 && d[len(d)-1] < 0
}

func TestFactorOfMany(t *testing.T) {
	d := draw{5}
	for _, p := range primes() {
		for range 40 {
			wantFactors(t, d.nonzero(p, 10), p)
		}
		for range 2 {
			wantFactors(t, d.monic(p, api.MaxPlaces), p)
		}
		f := []int{1 + d.below(p-1)}
		for len(f) < api.MaxPlaces-8 {
			g := d.monic(p, 1+d.below(4))
			for range 1 + d.below(3) {
				if len(f)+len(g) <= api.MaxPlaces+1 {
					f = plainMul(f, g, p)
				}
			}
		}
		wantFactors(t, f, p)
	}
}

// The factors of a product are those of its factors, together.
func TestFactorsOfProducts(t *testing.T) {
	d := draw{6}
	for _, p := range primes() {
		for range 20 {
			f, g := d.nonzero(p, 20), d.nonzero(p, 20)
			a, l, _ := Factor(f, p)
			b, m, _ := Factor(g, p)
			for _, s := range m {
				i := slices.IndexFunc(l, func(u api.Split) bool { return slices.Equal(u.F, s.F) })
				if i < 0 {
					l = append(l, s)
				} else {
					l[i].N += s.N
				}
			}
			slices.SortFunc(l, func(a, b api.Split) int {
				if stands(a.F, b.F) {
					return -1
				}
				return 1
			})
			wantFactor(t, plainMul(f, g, p), p, toldFactor(a*b%p, l))
		}
	}
}

// Powers at which the derivative is 0 at once, later, or never.
func TestFactorOfPowers(t *testing.T) {
	for _, p := range []int{2, 3, 5, 7, 31, 61, 67, greatest} {
		for _, g := range [][]int{{0, 1}, {1, 1}, {p - 1, 1}} {
			f := []int{p - 1}
			for n := 1; n <= api.MaxPlaces; n++ {
				f = plainMul(f, g, p)
				wantFactor(t, f, p, fmt.Sprintf("%d [{%v %d}]", p-1, g, n))
				is, _ := Irreducible(f, p)
				want(t, named(p, f), is, n == 1)
			}
		}
	}
	// All of x, x + 1 and x^2 + x + 1, as often as one likes.
	for i := range 13 {
		for j := range 13 {
			for n := range 13 {
				f, l := []int{1}, []api.Split{}
				for k, g := range [][]int{{0, 1}, {1, 1}, {1, 1, 1}} {
					times := [3]int{i, j, n}[k]
					for range times {
						f = plainMul(f, g, 2)
					}
					if times > 0 {
						l = append(l, api.Split{F: g, N: times})
					}
				}
				wantFactor(t, f, 2, toldFactor(1, l))
			}
		}
	}
}

// x to the p^n less x is the product of all irreducible ones whose degree divides n, each once.
func TestFactorOfFrobenius(t *testing.T) {
	for _, c := range [][2]int{{2, 1}, {2, 2}, {2, 3}, {2, 4}, {2, 5}, {2, 6}, {3, 1}, {3, 2}, {3, 3}, {5, 1}, {5, 2},
		{7, 1}, {7, 2}, {11, 1}, {13, 1}, {59, 1}, {61, 1}} {
		p, n := c[0], c[1]
		q := 1
		for range n {
			q *= p
		}
		f := make([]int, q+1)
		f[1], f[q] = p-1, 1
		var wanted []api.Split
		for _, g := range irreducibles(p, n) {
			if n%(len(g)-1) == 0 {
				wanted = append(wanted, api.Split{F: g, N: 1})
			}
		}
		wantFactor(t, f, p, toldFactor(1, wanted))
	}
}

// An irreducible polynomial of degree d divides x to the p^n less x just if d divides n.
func TestIrreducibleDividesFrobenius(t *testing.T) {
	d := draw{7}
	x := []int{0, 1}
	for _, p := range primes() {
		for range 25 {
			f := d.monic(p, 1+d.below(6))
			is, got := Irreducible(f, p)
			want(t, "fault", got, none)
			want(t, named(p, f), is, plainIrreducible(f, p))
			if !is {
				continue
			}
			h := x
			for n := 1; n <= 8; n++ {
				h, _ = Power(h, p, f, p)
				g, _ := Gcd(plainSub(h, x, p), f, p)
				want(t, fmt.Sprint(n, " and ", named(p, f)), len(g) == len(f), n%(len(f)-1) == 0)
			}
		}
	}
}

func TestIrreducible(t *testing.T) {
	for _, c := range []struct {
		f      []int
		p      int
		wanted bool
	}{
		{nil, 2, false}, {[]int{1}, 2, false}, {[]int{4}, 5, false}, {[]int{0, 1}, 2, true}, {[]int{3, 4}, 5, true},
		{[]int{1, 1, 1}, 2, true}, {[]int{1, 0, 1}, 2, false}, {[]int{1, 0, 1}, 3, true}, {[]int{2, 0, 2}, 3, true},
		{[]int{1, 0, 1}, 5, false}, {[]int{0, 0, 1}, 5, false}, {[]int{1, 0, 1, 0, 1}, 2, false}, {[]int{1, 0, 0, 0, 1}, 3, false},
		{[]int{1, 1, 0, 0, 1}, 2, true}, {[]int{1, 1, 1, 1, 1}, 2, true}, {[]int{4, 4, 0, 0, 0, 1}, 5, true},
		{[]int{1, 0, 1}, 65537, false}, {[]int{1, 0, 1}, 1073741783, true}, {[]int{1, 0, 1}, greatest, false},
	} {
		is, got := Irreducible(c.f, c.p)
		want(t, "fault", got, none)
		want(t, named(c.p, c.f), is, c.wanted)
	}
	// x^p - x - a is irreducible for each a but 0 (Artin and Schreier).
	for _, p := range []int{2, 3, 5, 7, 31, 59, 61} {
		for a := range p {
			f := make([]int, p+1)
			f[0], f[p] = (p-a)%p, 1
			f[1] += p - 1
			is, _ := Irreducible(f, p)
			want(t, named(p, f), is, a != 0)
		}
	}
}
