package real

import (
	"slices"
	"strings"
	"testing"

	"radicand/api"
	"radicand/factor"
	"radicand/num"
	"radicand/poly"
)

// want is a failure, if what is told is not what is wanted.
func want[T comparable](t *testing.T, what string, got, wanted T) {
	t.Helper()
	if got != wanted {
		t.Fatalf("%s: got %v, want %v", short(what), got, wanted)
	}
}

func short(s string) string {
	if len(s) > 300 {
		return s[:300] + ".."
	}
	return s
}

func fault(code, at int) api.Fault { return api.Fault{Code: code, At: at} }

var none = api.Fault{}

func whole(n int) num.Frac { return num.Whole(num.Of(n)) }

// frac is the fraction of that text, in lowest terms or not.
func frac(text string) num.Frac {
	a, b, bar := strings.Cut(text, "/")
	if !bar {
		b = "1"
	}
	x, _ := num.Over(longInt(a), longInt(b))
	return x
}

// longInt is the integer of that text.
func longInt(text string) num.Int {
	digits, below := strings.CutPrefix(text, "-")
	var a num.Int
	for digits != "" {
		n := min(len(digits), api.MaxDigits)
		// A first digit 0 is none that Parse reads.
		d, _ := num.Parse("1" + digits[:n-1])
		ten, _ := num.Parse("1" + nulls(n-1))
		last := num.Of(int(digits[n-1] - '0'))
		a = a.Mul(ten).Add(d.Sub(ten)).Mul(num.Of(10)).Add(last)
		digits = digits[n:]
	}
	if below {
		return a.Neg()
	}
	return a
}

// readLong is the polynomial with these integers, which may be longer than poly.New reads, as coefficients.
func readLong(texts []string) poly.Poly {
	cs := make([]num.Frac, len(texts))
	for i, text := range texts {
		cs[i] = num.Whole(longInt(text))
	}
	return poly.Of(cs...)
}

// tenth is 1 over 10^n.
func tenth(n int) num.Frac {
	ten, _ := num.Of(10).Pow(n)
	x, _ := num.Over(num.Of(1), ten)
	return x
}

// of is the polynomial with these coefficients, the lowest first.
func of(cs ...int) poly.Poly {
	xs := make([]num.Frac, len(cs))
	for i, c := range cs {
		xs[i] = whole(c)
	}
	return poly.Of(xs...)
}

// polyOf is the polynomial with these coefficients, as texts with spaces between.
func polyOf(t *testing.T, text string) poly.Poly {
	t.Helper()
	p, f := poly.New(strings.Fields(text))
	want(t, text, f, none)
	return p
}

// power is x^n.
func power(n int) poly.Poly {
	cs := make([]int, n+1)
	cs[n] = 1
	return of(cs...)
}

// with is the monic polynomial with these roots.
func with(xs ...num.Frac) poly.Poly {
	p := of(1)
	for _, x := range xs {
		p = p.Mul(poly.Of(x.Neg(), whole(1)))
	}
	return p
}

// alg is the number with these coefficients, as texts with spaces between, and that K.
func alg(text string, k int) api.Alg { return api.Alg{F: strings.Fields(text), K: k} }

// told is a number as text.
func told(a api.Alg) string { return strings.Join(a.F, " ") + " K " + num.Of(a.K).Text() }

// chain is Sturm's chain of p without its squares.
func chain(p poly.Poly) []poly.Poly {
	p, _, _ = p.Div(poly.Gcd(p, p.Derive()))
	l := []poly.Poly{p, p.Derive()}
	for {
		n := len(l)
		_, rest, f := l[n-2].Div(l[n-1])
		if f.Code != 0 {
			return l[:n-1]
		}
		k, rest := rest.Primitive()
		l = append(l, rest.Scale(whole(-k.Sign())))
	}
}

// atMost is how many roots are not above x.
func atMost(l []poly.Poly, x num.Frac) int {
	n, here, far := 0, 0, 0
	for i, p := range l {
		s, f := p.Eval(x).Sign(), p.Lead().Sign()
		if p.Degree()%2 == 1 {
			f = -f
		}
		if i > 0 && f != far {
			n++
		}
		if here*s < 0 {
			n--
		}
		if s != 0 {
			here = s
		}
		far = f
	}
	return n
}

// wantIn is a failure, if a is not written as it is to be, or not above lo, or above hi, or if more numbers stand there
// at which its polynomial is 0.
func wantIn(t *testing.T, what string, a api.Alg, lo, hi num.Frac) {
	t.Helper()
	f := readLong(a.F)
	_, g := f.Primitive()
	want(t, "primitive: "+what, f.Same(g), true)
	want(t, "as its texts: "+what, slices.Equal(a.F, f.Texts()), true)
	is, fault := factor.Irreducible(f)
	want(t, "irreducible: "+what, is && fault == none, true)
	l := chain(f)
	want(t, "not above it: "+what, atMost(l, lo), a.K)
	want(t, "up to it: "+what, atMost(l, hi), a.K+1)
}

// bracket is two fractions, 1 over 10^n apart, of which the second alone may be below a or a itself.
func bracket(t *testing.T, a api.Alg, n int) (lo, hi num.Frac) {
	t.Helper()
	m, f := Near(a, n)
	want(t, "Near of "+told(a), f, none)
	lo = num.Whole(m).Mul(tenth(n))
	return lo, lo.Add(tenth(n))
}

// A draw gives numbers, the same ones each time.
type draw struct{ state uint64 }

func (d *draw) next() uint64 {
	d.state += 0x9e3779b97f4a7c15
	z := d.state
	z = (z ^ z>>30) * 0xbf58476d1ce4e5b9
	z = (z ^ z>>27) * 0x94d049bb133111eb
	return z ^ z>>31
}

func (d *draw) below(n int) int { return int(d.next() % uint64(n)) }

func (d *draw) near0(n int) int { return d.below(2*n+1) - n }

func (d *draw) frac() num.Frac {
	x, _ := num.Over(num.Of(d.near0(60)), num.Of(1+d.below(12)))
	return x
}

// long is an integer of so many digits.
func (d *draw) long(digits int) num.Int {
	bs := []byte{'1' + byte(d.below(9))}
	for range digits - 1 {
		bs = append(bs, '0'+byte(d.below(10)))
	}
	a, _ := num.Parse(string(bs))
	if d.below(2) == 0 {
		return a.Neg()
	}
	return a
}

// poly is a polynomial of degree n.
func (d *draw) poly(n, most int) poly.Poly {
	for {
		cs := make([]int, n+1)
		for i := range cs {
			cs[i] = d.near0(most)
		}
		if cs[n] != 0 {
			return of(cs...)
		}
	}
}

// alg is a number of degree n at most.
func (d *draw) alg(n, most int) api.Alg {
	for {
		l, f := Roots(d.poly(1+d.below(n), most))
		if f == none && len(l) > 0 {
			return l[d.below(len(l))]
		}
	}
}
