package factor

import (
	"fmt"
	"slices"
	"strings"
	"testing"

	"radicand/api"
	"radicand/num"
	"radicand/poly"
)

// P4.1, Irreducible, and what follows; Roots is held against the factors of degree 1 all along.

func TestFactor(t *testing.T) {
	for _, c := range [][2]string{
		{"4 0 0 0 1", "1 [{[2 -2 1] 1} {[2 2 1] 1}]"}, {"2 0 -1/2", "-1/2 [{[-2 1] 1} {[2 1] 1}]"},
		{"1 0 0 0 1", "1 [{[1 0 0 0 1] 1}]"}, {"1", "1 []"}, {"5", "5 []"}, {"-3/7", "-3/7 []"},
		{"0 1", "1 [{[0 1] 1}]"}, {"0 -2/3", "-2/3 [{[0 1] 1}]"}, {"0 0 0 5", "5 [{[0 1] 3}]"},
		{"2 4", "2 [{[1 2] 1}]"}, {"-6 4", "2 [{[-3 2] 1}]"}, {"1/4 -1 1", "1/4 [{[-1 2] 2}]"},
		{"-2 0 1", "1 [{[-2 0 1] 1}]"}, {"0 -2 0 1", "1 [{[0 1] 1} {[-2 0 1] 1}]"}, {"2 0 -1", "-1 [{[-2 0 1] 1}]"},
		{"1 0 -10 0 1", "1 [{[1 0 -10 0 1] 1}]"}, {"1 0 2 0 1", "1 [{[1 0 1] 2}]"}, {"0 0 -1 1", "1 [{[-1 1] 1} {[0 1] 2}]"},
		// -10 is below -9, 2 x - 1 behind x + 1: numbers are compared, the highest coefficient first.
		{"90 -19 1", "1 [{[-10 1] 1} {[-9 1] 1}]"}, {"-1 1 2", "1 [{[1 1] 1} {[-1 2] 1}]"},
		{"20 0 9 0 1", "1 [{[4 0 1] 1} {[5 0 1] 1}]"}, {"35 24 16 4 1", "1 [{[5 2 1] 1} {[7 2 1] 1}]"},
		// Lower degrees first, however often, and however large.
		{"-1 1 -1 1", "1 [{[-1 1] 1} {[1 0 1] 1}]"}, {"1 -1 2 -2 1 -1", "-1 [{[-1 1] 1} {[1 0 1] 2}]"},
		{"1000001 0 1000000 1", "1 [{[1000001 0 1000000 1] 1}]"}, {"-1000000 1 -1000000 1", "1 [{[-1000000 1] 1} {[1 0 1] 1}]"},
		{"1 1 1 1 1 1", "1 [{[1 1] 1} {[1 -1 1] 1} {[1 1 1] 1}]"},
	} {
		wantFactor(t, read(t, c[0]), c[1])
	}
}

// power is x^n.
func power(n int) poly.Poly {
	cs := make([]int, n+1)
	cs[n] = 1
	return of(cs...)
}

func TestFaults(t *testing.T) {
	long := poly.Of(slices.Repeat([]num.Frac{number(1)}, 5000)...)
	for _, c := range []struct {
		p    poly.Poly
		code int
	}{{poly.Poly{}, api.ErrZero}, {of(0, 0), api.ErrZero}, {power(17), api.ErrMany}, {long, api.ErrMany}, {power(16), 0}, {of(3), 0}} {
		k, l, f := Factor(c.p)
		want(t, "Factor", f, fault(c.code, 0))
		roots, f := Roots(c.p)
		want(t, "Roots", f, fault(c.code, 0))
		if c.code != 0 {
			want(t, "fraction", k.Text(), "0")
			want(t, "factors and roots", len(l)+len(roots), 0)
		}
		is, f := Irreducible(c.p)
		want(t, "is", is, false)
		if c.code == api.ErrZero {
			c.code = 0
		}
		want(t, "Irreducible", f, fault(c.code, 0))
	}
}

func TestIrreducible(t *testing.T) {
	for _, c := range []struct {
		p      string
		wanted bool
	}{
		{"", false}, {"1", false}, {"-7/2", false}, {"0 1", true}, {"4 -2/3", true}, {"0 0 1", false}, {"6 0 2", true},
		{"1 2 1", false}, {"-2 0 1/2", false}, {"-1 0 1/2", true}, {"1 0 0 0 1", true}, {"4 0 0 0 1", false}, {"1 0 2 0 1", false},
		{"-1 -1 0 0 0 0 0 0 0 0 0 0 0 0 0 0 1", true}, {"1 1 0 0 0 0 0 0 0 0 0 0 0 0 0 1", true}, {"1 1 0 0 0 0 0 0 1", false},
		{"0 0 0 0 0 0 0 0 0 0 0 0 0 0 0 0 1", false}, {"4 0 0 0 0 0 0 0 0 0 0 0 0 0 0 0 1", false}, {"2 0 0 0 0 0 0 0 0 0 0 0 0 0 0 0 1", true},
	} {
		is, f := Irreducible(read(t, c.p))
		want(t, "fault", f, none)
		want(t, c.p, is, c.wanted)
	}
}

// divided is f over d, and whether that has integers as coefficients; d's last one is not 0.
func divided(f, d []int) ([]int, bool) {
	if len(f) < len(d) {
		return nil, false
	}
	n := len(d) - 1
	rest, q := slices.Clone(f), make([]int, len(f)-n)
	for i := len(q) - 1; i >= 0; i-- {
		if rest[i+n]%d[n] != 0 {
			return nil, false
		}
		q[i] = rest[i+n] / d[n]
		for j, c := range d {
			rest[i+j] -= q[i] * c
		}
	}
	for _, c := range rest {
		if c != 0 {
			return nil, false
		}
	}
	return q, true
}

// quadratics is, in order, polynomials of degree 1 and 2, of which some divide each product of at most degree 5 whose
// coefficients are -2 to 2: the middle one is at most twice the root of 24.
func quadratics() [][]int {
	var l [][]int
	for a := 1; a <= 2; a++ {
		for b := -2; b <= 2; b++ {
			l = append(l, []int{b, a})
		}
	}
	for a := 1; a <= 2; a++ {
		for b := -9; b <= 9; b++ {
			for c := -2; c <= 2; c++ {
				l = append(l, []int{c, b, a})
			}
		}
	}
	return l
}

// plainParts is what Factor answers of a primitive f: what divides it of those that stand there, and what is left.
func plainParts(f []int, among [][]int) []api.Part {
	var l []api.Part
	for _, d := range among {
		n := 0
		for q, is := divided(f, d); is; q, is = divided(f, d) {
			f = q
			n++
		}
		if n > 0 {
			l = append(l, api.Part{F: of(d...).Texts(), N: n})
		}
	}
	if len(f) > 1 {
		l = append(l, api.Part{F: of(f...).Texts(), N: 1})
	}
	return l
}

// All polynomials of degree 5 at most with the coefficients -2 to 2, times some fraction.
func TestFactorOfAll(t *testing.T) {
	among := quadratics()
	d := draw{1}
	for i := range 5 * 5 * 5 * 5 * 5 * 5 {
		var cs []int
		for n := i; n > 0; n /= 5 {
			cs = append(cs, n%5-2)
		}
		p := of(cs...)
		k, q := p.Primitive()
		if k.Cmp(number(1)) != 0 {
			continue
		}
		k = d.frac(0)
		wantFactor(t, p.Scale(k), toldFactor(k, plainParts(cs[:q.Degree()+1], among)))
	}
}

// product is one of irreducible polynomials of degree 16 at most.
func (d *draw) product(digits int) *product {
	a := &product{k: d.frac(digits)}
	for most := 1 + d.below(8); ; {
		f, n := d.irreducible(1+d.below(most), digits), 1+d.below(1+d.below(4))
		if a.degree()+n*f.Degree() > api.MaxFactor {
			return a
		}
		a.with(f, n)
	}
}

func TestFactorOfProducts(t *testing.T) {
	d := draw{2}
	for _, digits := range []int{0, 0, 0, 1, 1, 2, 4, 9, 20, 60} {
		for range 40 {
			a := d.product(digits)
			wantFactor(t, a.poly(), a.told())
		}
	}
}

// The factors of a product are those of its factors, together.
func TestFactorsOfProducts(t *testing.T) {
	d := draw{3}
	for range 300 {
		digits := d.below(4)
		a := &product{k: number(1)}
		p := poly.Of(a.k)
		for range 2 {
			q := d.poly(d.below(9), digits).Scale(d.frac(digits))
			k, l, f := Factor(q)
			want(t, "fault", f, none)
			a.k = a.k.Mul(k)
			for _, part := range l {
				a.with(read(t, strings.Join(part.F, " ")), part.N)
			}
			p = p.Mul(q)
		}
		wantFactor(t, p, a.told())
	}
}

// rooted is the polynomial that is 0 at all sums of a root of f and one of the two roots of a: f at x + r times f at
// x - r, where r^2 is a.
func rooted(f poly.Poly, a int) poly.Poly {
	// f at x + r is even + odd r.
	var even, odd poly.Poly
	for i := f.Degree(); i >= 0; i-- {
		// Horner's way: times x + r, and the next coefficient.
		even, odd = even.Mul(of(0, 1)).Add(odd.Scale(number(a))).Add(poly.Of(f.At(i))), odd.Mul(of(0, 1)).Add(even)
	}
	return even.Mul(even).Sub(odd.Mul(odd).Scale(number(a)))
}

// What is 0 at the sums of roots of numbers is irreducible, though modulo each prime it has factors of degree 2 or 1
// alone.
func TestFactorOfSumsOfRoots(t *testing.T) {
	for _, shift := range []int{0, 1, -7, 1000003} {
		f := of(-shift, 1)
		for n, a := range []int{2, 3, 5, 7} {
			f = rooted(f, a)
			wantFactor(t, f, toldFactor(number(1), []api.Part{{F: f.Texts(), N: 1}}))
			if n == 2 {
				a := &product{k: number(-3)}
				a.with(f, 1)
				a.with(rooted(rooted(rooted(of(shift, 1), -1), 6), 11), 1)
				wantFactor(t, a.poly(), a.told())
			}
		}
		// A number that is the product of two of the others, or of a square, gives nothing new.
		is, _ := Irreducible(rooted(rooted(rooted(of(-shift, 1), 2), 3), 6))
		want(t, "roots of 2, 3 and 6", is, false)
		is, _ = Irreducible(rooted(rooted(of(-shift, 1), 2), 8))
		want(t, "roots of 2 and 8", is, false)
	}
}

// firstPrimes is the product of the first primes that are looked at, times two.
func firstPrimes(n int) num.Int {
	product := num.Of(2)
	for p := range primes() {
		if n--; n < 0 {
			break
		}
		product = product.Mul(num.Of(p))
	}
	return product
}

// linear is the product of x - i k for i from 1 to n.
func linear(n, k int) poly.Poly {
	f := of(1)
	for i := range n {
		f = f.Mul(of(-(i+1)*k, 1))
	}
	return f
}

// Polynomials that are all of degree 1 modulo the first primes, but irreducible (Eisenstein's, by 2), or products of
// two such.
func TestFactorOfManyPieces(t *testing.T) {
	k := num.Whole(firstPrimes(2 * tried))
	for _, n := range []int{2, 3, 7, 8, 16} {
		f := linear(n, 2).Add(poly.Of(k))
		wantFactor(t, f, toldFactor(number(1), []api.Part{{F: f.Texts(), N: 1}}))
	}
	a := &product{k: number(1)}
	a.with(linear(7, 2).Add(poly.Of(k)), 1)
	a.with(linear(7, -2).Add(poly.Of(k)), 1)
	a.with(linear(1, 0), 2)
	wantFactor(t, a.poly(), a.told())
	a = &product{k: number(1)}
	a.with(linear(8, 2).Add(poly.Of(k)), 1)
	a.with(linear(8, -2).Add(poly.Of(k)), 1)
	wantFactor(t, a.poly(), a.told())
}

// Polynomials that lose their degree modulo the first primes, or have squares there.
func TestFactorWhereFirstPrimesMislead(t *testing.T) {
	d := draw{4}
	k := num.Whole(firstPrimes(10))
	for n := 1; n <= 7; n++ {
		f, g := d.irreducible(n, 1), poly.Of(number(1), k)
		a := &product{k: number(1)}
		a.with(f, 1)
		a.with(g, 1)
		wantFactor(t, a.poly(), a.told())
		// Modulo those primes it is the square of x to the n.
		a = &product{k: number(3)}
		a.with(power(n).Sub(poly.Of(k)), 1)
		a.with(power(n).Add(poly.Of(k)), 1)
		wantFactor(t, a.poly(), a.told())
		a.with(of(1, 1, 1), 1)
		wantFactor(t, a.poly(), a.told())
	}
	for n := 2; n <= api.MaxFactor; n++ {
		f := power(n).Sub(poly.Of(k))
		wantFactor(t, f, toldFactor(number(1), []api.Part{{F: f.Texts(), N: 1}}))
	}
}

// Factors that are longer than their product: in k (x - 1)^4 + 1 stands 6 k, in the product hardly above k; and each
// power of the primes is at some k between the two.
func TestFactorThatIsLong(t *testing.T) {
	sparse := of(1, -1, -1, 0, 1, 0, 0, 1, 0, -1, -1, 1)
	fourth := linear(1, 1).Mul(linear(1, 1))
	fourth = fourth.Mul(fourth)
	rest, left, _ := sparse.Div(fourth)
	want(t, "what is left", left.Degree(), -1)
	_, l, _ := Factor(rest)
	for k := num.Of(3); k.Cmp(num.Of(1<<62)) < 0; k = k.Add(k).Add(num.Of(1)) {
		f := fourth.Scale(num.Whole(k)).Add(of(1))
		if is, _ := Irreducible(f); !is {
			continue
		}
		a := &product{k: number(1)}
		a.with(f, 1)
		for _, part := range l {
			a.with(read(t, strings.Join(part.F, " ")), part.N)
		}
		wantFactor(t, a.poly(), a.told())
	}
}

// Factors whose coefficients are long where those of the product are short, and short where they are long.
func TestFactorOfUnevenProducts(t *testing.T) {
	for n := 1; n < 120; n++ {
		// x^4 + 4 b^4, which is (x^2 + 2 b^2)^2 less (2 b x)^2.
		b, _ := num.Of(2).Pow(n)
		b = b.Add(num.Of(1))
		b2 := b.Mul(b)
		p := poly.Of(num.Whole(b2.Mul(b2).Mul(num.Of(4))), number(0), number(0), number(0), number(1))
		a := &product{k: number(1)}
		for _, c := range []num.Int{b, b.Neg()} {
			a.with(poly.Of(num.Whole(b2.Mul(num.Of(2))), num.Whole(c.Mul(num.Of(2))), number(1)), 1)
		}
		wantFactor(t, p, a.told())
		// Long roots, and ones over long numbers.
		a = &product{k: num.Whole(b)}
		a.with(poly.Of(num.Whole(b.Neg()), number(1)), 2)
		a.with(poly.Of(number(1), num.Whole(b)), 1)
		a.with(of(1, 1, 0, 1), 1)
		wantFactor(t, a.poly(), a.told())
	}
}

// The greatest degree with long numbers.
func TestFactorOfLongNumbers(t *testing.T) {
	d := draw{5}
	for _, degrees := range [][]int{{16}, {8, 8}, {1, 15}, {5, 5, 6}, {2, 2, 2, 2, 2, 2, 2, 2}, {4, 4}} {
		a := &product{k: d.frac(1000)}
		for _, n := range degrees {
			a.with(d.irreducible(n, 1000/len(degrees)), 1+d.below(api.MaxFactor/8/len(degrees)+1))
		}
		if a.degree() <= api.MaxFactor {
			wantFactor(t, a.poly(), a.told())
		}
	}
	// Fractions over long numbers: over one bar they are longer than New reads.
	cs := make([]num.Frac, api.MaxFactor+1)
	for i := range cs {
		cs[i] = d.frac(300)
	}
	p := poly.Of(cs...)
	k, l, f := Factor(p)
	want(t, "fault", f, none)
	again := poly.Of(k)
	for _, part := range l {
		want(t, "times", part.N, 1)
		q := make([]num.Frac, len(part.F))
		for i, text := range part.F {
			q[i] = longNumber(text)
		}
		again = again.Mul(poly.Of(q...))
	}
	want(t, "product", again.Same(p), true)
}

// longNumber is the integer of that text, which may be longer than num.Parse reads.
func longNumber(text string) num.Frac {
	below := strings.HasPrefix(text, "-")
	var a num.Int
	for _, c := range strings.TrimPrefix(text, "-") {
		a = a.Mul(num.Of(10)).Add(num.Of(int(c - '0')))
	}
	if below {
		a = a.Neg()
	}
	return num.Whole(a)
}

// x^n - 1, x^n - 2, and powers of x and 2 x - 3.
func TestFactorOfPowers(t *testing.T) {
	for n := 1; n <= api.MaxFactor; n++ {
		a := &product{k: number(1)}
		for d := 1; d <= n; d++ {
			if n%d == 0 {
				c, _ := Cyclotomic(d)
				a.with(c, 1)
			}
		}
		wantFactor(t, power(n).Sub(of(1)), a.told())
		for i := 0; i+n <= api.MaxFactor; i++ {
			b := &product{k: number(-2)}
			b.with(of(-3, 2), n)
			if i > 0 {
				b.with(of(0, 1), i)
			}
			wantFactor(t, b.poly(), b.told())
		}
		f := power(n).Sub(of(2))
		wantFactor(t, f, toldFactor(number(1), []api.Part{{F: f.Texts(), N: 1}}))
	}
}

// What is answered is new: nothing of it is kept, or there twice.
func TestAnswersAreNew(t *testing.T) {
	p := read(t, "0 -1 0 0 0 1")
	_, l, _ := Factor(p)
	wanted := fmt.Sprint(l)
	for i, part := range l {
		for j := range part.F {
			part.F[j] = "7"
		}
		for _, other := range l[i+1:] {
			want(t, "shared", other.F[0] == "7", false)
		}
	}
	_, l, _ = Factor(p)
	want(t, "again", fmt.Sprint(l), wanted)
	want(t, "argument", told(p), "0 -1 0 0 0 1")
}
