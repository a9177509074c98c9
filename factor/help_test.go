package factor

import (
	"fmt"
	"slices"
	"strings"
	"testing"

	"radicand/api"
	"radicand/num"
	"radicand/poly"
)

// want is a failure, if what is told is not what is wanted.
func want[T comparable](t *testing.T, what string, got, wanted T) {
	t.Helper()
	if got != wanted {
		t.Fatalf("%s: got %v, want %v", short(what), got, wanted)
	}
}

func short(s string) string {
	if len(s) > 300 {
		return s[:300] + ".."
	}
	return s
}

func fault(code, at int) api.Fault { return api.Fault{Code: code, At: at} }

var none = api.Fault{}

func number(n int) num.Frac { return num.Whole(num.Of(n)) }

// of is the polynomial with these coefficients, the lowest first.
func of(cs ...int) poly.Poly {
	xs := make([]num.Frac, len(cs))
	for i, c := range cs {
		xs[i] = number(c)
	}
	return poly.Of(xs...)
}

// read is the polynomial with these coefficients, as texts with spaces between.
func read(t *testing.T, text string) poly.Poly {
	t.Helper()
	p, f := poly.New(strings.Fields(text))
	want(t, text, f, none)
	return p
}

// told is a polynomial as read reads it.
func told(p poly.Poly) string { return strings.Join(p.Texts(), " ") }

// toldFactor is what Factor answers as one text.
func toldFactor(k num.Frac, l []api.Part) string { return k.Text() + " " + fmt.Sprint(l) }

// wantFactor is a failure, if Factor does not answer so; Irreducible and Roots are to tell the same.
func wantFactor(t *testing.T, p poly.Poly, wanted string) {
	t.Helper()
	k, l, f := Factor(p)
	want(t, "fault of "+told(p), f, none)
	if got := toldFactor(k, l); got != wanted {
		t.Fatalf("%s: got %s, want %s", short(told(p)), short(got), short(wanted))
	}
	is, f := Irreducible(p)
	want(t, "fault of "+told(p), f, none)
	want(t, "irreducible: "+told(p), is, len(l) == 1 && l[0].N == 1)
	roots, f := Roots(p)
	want(t, "fault of "+told(p), f, none)
	wantRoots(t, p, roots, l)
}

// wantRoots is a failure, if the roots are not those of the factors of degree 1, rising.
func wantRoots(t *testing.T, p poly.Poly, roots []num.Frac, l []api.Part) {
	t.Helper()
	n := 0
	for _, part := range l {
		if len(part.F) == 2 {
			n++
		}
	}
	want(t, "number of roots: "+told(p), len(roots), n)
	for i, x := range roots {
		want(t, "at a root: "+told(p), p.Eval(x).Sign(), 0)
		want(t, "rising: "+told(p), i == 0 || roots[i-1].Cmp(x) < 0, true)
	}
}

// A product is a fraction, and polynomials with a number each: what Factor is to answer.
type product struct {
	k     num.Frac
	fs    []poly.Poly
	times []int
}

// with puts a primitive irreducible polynomial n times to the rest.
func (a *product) with(f poly.Poly, n int) {
	for i, g := range a.fs {
		if g.Same(f) {
			a.times[i] += n
			return
		}
	}
	a.fs, a.times = append(a.fs, f), append(a.times, n)
}

// degree is that of the polynomial.
func (a *product) degree() int {
	n := 0
	for i, f := range a.fs {
		n += f.Degree() * a.times[i]
	}
	return n
}

// poly is the polynomial that they make.
func (a *product) poly() poly.Poly {
	p := poly.Of(a.k)
	for i, f := range a.fs {
		for range a.times[i] {
			p = p.Mul(f)
		}
	}
	return p
}

// stands tells, as cmp.Compare does, how the coefficients stand in order: those of the highest power first.
func stands(f, g poly.Poly) int {
	if f.Degree() != g.Degree() {
		return f.Degree() - g.Degree()
	}
	for i := f.Degree(); i >= 0; i-- {
		if c := f.At(i).Cmp(g.At(i)); c != 0 {
			return c
		}
	}
	return 0
}

// told is what Factor is to answer, as toldFactor tells it.
func (a *product) told() string {
	parts := make([]api.Part, len(a.fs))
	order := make([]int, len(a.fs))
	for i := range order {
		order[i] = i
	}
	slices.SortFunc(order, func(i, j int) int { return stands(a.fs[i], a.fs[j]) })
	for n, i := range order {
		parts[n] = api.Part{F: a.fs[i].Texts(), N: a.times[i]}
	}
	return toldFactor(a.k, parts)
}

// A draw gives polynomials, the same ones each time.
type draw struct{ state uint64 }

func (d *draw) next() uint64 {
	d.state += 0x9e3779b97f4a7c15
	z := d.state
	z = (z ^ z>>30) * 0xbf58476d1ce4e5b9
	z = (z ^ z>>27) * 0x94d049bb133111eb
	return z ^ z>>31
}

func (d *draw) below(n int) int { return int(d.next() % uint64(n)) }

// long is a number of so many digits, or a few less; of 0 digits: a small one.
func (d *draw) long(digits int) num.Int {
	if digits == 0 {
		return num.Of(d.below(13) - 6)
	}
	bs := make([]byte, digits)
	for i := range bs {
		bs[i] = '0' + byte(d.below(10))
	}
	text := strings.TrimLeft(string(bs), "0")
	if text == "" {
		return num.Int{}
	}
	a, _ := num.Parse(text)
	if d.below(2) == 0 {
		return a.Neg()
	}
	return a
}

// frac is a fraction but 0.
func (d *draw) frac(digits int) num.Frac {
	for {
		if x, f := num.Over(d.long(digits), d.long(digits)); f.Code == 0 && x.Sign() != 0 {
			return x
		}
	}
}

// poly is a polynomial of degree n at most that is not 0.
func (d *draw) poly(n, digits int) poly.Poly {
	cs := make([]num.Frac, n+1)
	for {
		for i := range cs {
			cs[i] = num.Whole(d.long(digits))
		}
		if p := poly.Of(cs...); p.Degree() >= 0 {
			return p
		}
	}
}

// irreducible is a primitive irreducible polynomial of degree n (Eisenstein's: a prime divides all coefficients but
// the last, and its square does not divide the first); or what is such at 1/x.
func (d *draw) irreducible(n, digits int) poly.Poly {
	prime := num.Of([4]int{2, 3, 5, 101}[d.below(4)])
	cs := make([]num.Int, n+1)
	for i := range n {
		cs[i] = d.long(digits).Mul(prime)
	}
	cs[0], cs[n] = d.without(prime, digits).Mul(prime), d.without(prime, digits)
	if d.below(2) == 0 {
		slices.Reverse(cs)
	}
	xs := make([]num.Frac, n+1)
	for i, c := range cs {
		xs[i] = num.Whole(c)
	}
	_, f := poly.Of(xs...).Primitive()
	return f
}

// without is a number that the prime does not divide.
func (d *draw) without(prime num.Int, digits int) num.Int {
	for {
		a := d.long(digits)
		if _, r, _ := a.Div(prime); r.Sign() != 0 {
			return a
		}
	}
}
