package factor

import (
	"testing"

	"radicand/fp"
	"radicand/num"
)

func TestPrimes(t *testing.T) {
	last := 0
	for p := range primes() {
		want(t, "prime", fp.Check(nil, p), none)
		want(t, "rising", p > last, true)
		if last = p; p > firstAbove+2000 {
			break
		}
	}
}

func TestInverse(t *testing.T) {
	d := draw{7}
	for _, p := range []int{2, 3, 7, 65537, 1048583} {
		for range 40 {
			g := d.modulo(p, 1+d.below(12))
			if is, _ := fp.Irreducible(g, p); !is {
				continue
			}
			a := d.modulo(p, d.below(20))
			if _, rest, _ := fp.Div(a, g, p); len(rest) == 0 {
				continue
			}
			product, _ := fp.Mul(a, inverse(a, g, p), p)
			_, rest, _ := fp.Div(product, g, p)
			want(t, "degree", len(rest), 1)
			want(t, "one", rest[0], 1)
		}
	}
}

// modulo is a monic polynomial of degree n modulo p.
func (d *draw) modulo(p, n int) []int {
	f := make([]int, n+1)
	for i := range f {
		f[i] = d.below(p)
	}
	f[n] = 1
	return f
}

func TestLadder(t *testing.T) {
	p := num.Of(3)
	for n := 1; n < 200; n++ {
		top, _ := p.Pow(n)
		ms := ladder(p, n)
		want(t, "first", ms[0].Cmp(p), 0)
		want(t, "last", ms[len(ms)-1].Cmp(top), 0)
		for i, m := range ms[1:] {
			_, rest, _ := m.Div(ms[i])
			want(t, "divides", rest.Sign(), 0)
			want(t, "rising", m.Cmp(ms[i]), 1)
			_, rest, _ = ms[i].Mul(ms[i]).Div(m)
			want(t, "divides the square", rest.Sign(), 0)
		}
		want(t, "exponent", exponent(p, top), n+1)
		want(t, "exponent", exponent(p, top.Sub(num.Of(1))), n)
	}
}

// The lead times all that is lifted is f, modulo the power.
func TestLifted(t *testing.T) {
	d := draw{8}
	for range 150 {
		digits := d.below(40)
		f := numbers(d.irreducible(9+d.below(8), digits).Mul(d.irreducible(1+d.below(8), digits)))
		s, _ := best(f)
		powers := ladder(num.Of(s.p), 1+d.below(30))
		top := ring{powers[len(powers)-1]}
		product := []num.Int{f[len(f)-1]}
		for i, g := range s.lifted(f, powers) {
			product = top.product(product, g)
			want(t, "monic", g[len(g)-1].Cmp(num.Of(1)), 0)
			for j, c := range left(g, s.p) {
				want(t, "part", c, s.parts[i][j])
			}
		}
		want(t, "degree", len(product), len(f))
		for i, c := range top.all(f) {
			want(t, "coefficient", top.least(product[i]).Cmp(c), 0)
		}
	}
}
