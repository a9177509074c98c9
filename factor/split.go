package factor

import (
	"iter"

	"radicand/api"
	"radicand/fp"
	"radicand/num"
)

const (
	// The primes stand above this: so high that most polynomials have no squares modulo them and need not be lifted
	// far, so low that powers to them take little time.
	firstAbove = 1 << 20
	// A polynomial is split modulo so many primes at most: each more may show that some degrees are none of a factor's.
	tried = 4
)

// primes goes through primes, rising.
func primes() iter.Seq[int] {
	return func(yield func(int) bool) {
		for p := firstAbove + 1; p < api.MaxPrime; p += 2 {
			if fp.Check(nil, p).Code == 0 && !yield(p) {
				return
			}
		}
	}
}

// A split is a polynomial modulo the prime p: the monic irreducible ones that divide it there.
type split struct {
	p     int
	f     []int
	parts [][]int
}

// splitOf is f modulo p, and whether it keeps its degree there and has no squares.
func splitOf(f []num.Int, p int) (split, bool) {
	s := split{p: p, f: left(f, p)}
	if s.f[len(s.f)-1] == 0 {
		return split{}, false
	}
	_, parts, _ := fp.Factor(s.f, p)
	for _, part := range parts {
		if part.N > 1 {
			return split{}, false
		}
		s.parts = append(s.parts, part.F)
	}
	return s, true
}

// left is what is left of each of the numbers modulo p.
func left(as []num.Int, p int) []int {
	l := make([]int, len(as))
	for i, a := range as {
		_, r, _ := a.Div(num.Of(p))
		l[i], _ = r.Small()
	}
	return l
}

// degrees is the set of those that products of some of the parts have.
func (s split) degrees() set {
	d := only(0)
	for _, part := range s.parts {
		d |= d << (len(part) - 1)
	}
	return d
}

// best is f, of degree 1 or more and without squares, split modulo one of a few primes into the fewest parts, and the
// degrees that divisors of f may have: those that they may have modulo each of the primes.
func best(f []num.Int) (split, set) {
	var least split
	degrees := below(len(f))
	n := 0
	for p := range primes() {
		s, is := splitOf(f, p)
		if !is {
			continue
		}
		degrees &= s.degrees()
		if n == 0 || len(s.parts) < len(least.parts) {
			least = s
		}
		if n++; n == tried || justEnds(degrees) {
			break
		}
	}
	return least, degrees
}

// justEnds tells whether the degrees are 0 and that of the polynomial alone, which always are among them: so that it
// is irreducible.
func justEnds(degrees set) bool { return degrees.size() == 2 }

// inverse is what times a is 1 modulo g, which is irreducible modulo p and does not divide a (Euclid's way: u and v
// are how many times a the polynomials x and y are).
func inverse(a, g []int, p int) []int {
	_, y, _ := fp.Div(a, g, p)
	x, u, v := g, []int(nil), []int{1}
	for len(y) > 1 {
		q, rest, _ := fp.Div(x, y, p)
		step, _ := fp.Mul(q, v, p)
		x, y = y, rest
		u, v = v, less(u, step, p)
	}
	k, _, _ := fp.Div([]int{1}, y, p)
	w, _ := fp.Mul(k, v, p)
	return w
}

// less is u less v modulo p; v has the higher degree.
func less(u, v []int, p int) []int {
	l := make([]int, len(v))
	copy(l, u)
	for i, c := range v {
		l[i] = (l[i] + p - c) % p
	}
	return l
}
