package roots

import (
	"strings"
	"testing"

	"radicand/num"
	"radicand/poly"
	"radicand/whole"
)

// want is a failure, if what is told is not what is wanted.
func want[T comparable](t *testing.T, what string, got, wanted T) {
	t.Helper()
	if got != wanted {
		t.Fatalf("%s: got %v, want %v", short(what), got, wanted)
	}
}

func short(s string) string {
	if len(s) > 300 {
		return s[:300] + ".."
	}
	return s
}

func number(n int) num.Frac { return num.Whole(num.Of(n)) }

// over is a over b.
func over(a, b num.Int) num.Frac {
	x, _ := num.Over(a, b)
	return x
}

// bit is 1 over 2^n.
func bit(n int) num.Frac { return over(num.Of(1), whole.TwoTo(n)) }

// of is the polynomial with these coefficients, the lowest first.
func of(cs ...int) poly.Poly {
	xs := make([]num.Frac, len(cs))
	for i, c := range cs {
		xs[i] = number(c)
	}
	return poly.Of(xs...)
}

// power is x^n.
func power(n int) poly.Poly {
	cs := make([]int, n+1)
	cs[n] = 1
	return of(cs...)
}

// with is the monic polynomial with these roots.
func with(xs ...num.Frac) poly.Poly {
	p := of(1)
	for _, x := range xs {
		p = p.Mul(poly.Of(x.Neg(), number(1)))
	}
	return p
}

// told is a polynomial as text.
func told(p poly.Poly) string { return strings.Join(p.Texts(), " ") }

// realRoots is how many real roots a polynomial without squares has (Sturm's way).
func realRoots(p poly.Poly) int {
	high := []int{p.Lead().Sign()}
	low := []int{far(p)}
	for q := p.Derive(); q.Degree() >= 0; {
		high, low = append(high, q.Lead().Sign()), append(low, far(q))
		_, rest, _ := p.Div(q)
		k, rest := rest.Primitive()
		p, q = q, rest.Scale(number(-k.Sign()))
	}
	n := 0
	for i := 1; i < len(high); i++ {
		if low[i] != low[i-1] {
			n++
		}
		if high[i] != high[i-1] {
			n--
		}
	}
	return n
}

// far is the sign of p far below 0.
func far(p poly.Poly) int {
	if p.Degree()%2 == 1 {
		return -p.Lead().Sign()
	}
	return p.Lead().Sign()
}

// wantRoots is a failure, if these are not all roots of p, rising: each is held against the signs of p around it.
func wantRoots(t *testing.T, p poly.Poly, rs []*Root) {
	t.Helper()
	want(t, "number of roots of "+told(p), len(rs), realRoots(p))
	for i, r := range rs {
		for _, k := range []int{0, 3, 40, 1} {
			at := r.Floor(k)
			s, next := p.Eval(over(at, whole.TwoTo(k))).Sign(), p.Eval(over(next(at), whole.TwoTo(k))).Sign()
			want(t, "against its Floor", r.Against(over(at, whole.TwoTo(k))) >= 0, true)
			want(t, "against the next number", r.Against(over(at.Add(num.Of(1)), whole.TwoTo(k))), -1)
			if k == 40 && (i == 0 || rs[i-1].Floor(k).Cmp(at) < 0) && (i == len(rs)-1 || rs[i+1].Floor(k).Cmp(at) > 0) {
				want(t, "signs around a root of "+told(p), s*next < 0 || s == 0, true)
			}
		}
		if i > 0 {
			want(t, "rising", Cmp(rs[i-1], r), -1)
			want(t, "falling", Cmp(r, rs[i-1]), 1)
		}
	}
}

// A draw gives numbers, the same ones each time.
type draw struct{ state uint64 }

func (d *draw) next() uint64 {
	d.state += 0x9e3779b97f4a7c15
	z := d.state
	z = (z ^ z>>30) * 0xbf58476d1ce4e5b9
	z = (z ^ z>>27) * 0x94d049bb133111eb
	return z ^ z>>31
}

func (d *draw) below(n int) int { return int(d.next() % uint64(n)) }

// near0 is a number from -n to n.
func (d *draw) near0(n int) int { return d.below(2*n+1) - n }

// frac is a fraction, often one over a power of 2.
func (d *draw) frac() num.Frac {
	switch d.below(3) {
	case 0:
		return over(num.Of(d.near0(40)), num.Of(1<<d.below(9)))
	case 1:
		return over(num.Of(d.near0(1000000)), num.Of(1+d.below(1000)))
	}
	return number(d.near0(9))
}

// poly is a polynomial of degree n at most, without squares, of degree 1 at least.
func (d *draw) poly(n, most int) poly.Poly {
	for {
		cs := make([]int, n+1)
		for i := range cs {
			cs[i] = d.near0(most)
		}
		p := of(cs...)
		if disc, f := p.Disc(); f.Code == 0 && disc.Sign() != 0 {
			return p
		}
	}
}
