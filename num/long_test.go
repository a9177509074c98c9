package num

import (
	"math/big"
	"testing"
)

// Numbers of many digits, held against those of math/big: P1.2 to P1.6, and what stands behind // in the face.

func lengths() []int { return []int{2, 4, 12, 60, 130, 400, 1200} }

// pairs goes through pairs of numbers of up to some words, some of them with a common divisor.
func pairs(t *testing.T, words int, each func(a, b Int, x, y *big.Int)) {
	d := draw{uint64(words)}
	for range 12 + 8000/words/words {
		x, y := d.big(words), d.big(words)
		if d.below(3) == 0 {
			g := d.big(words / 2)
			x.Mul(x, g)
			y.Mul(y, g)
		}
		a, b := fromBig(x), fromBig(y)
		wantBig(t, "made", a, x)
		wantBig(t, "made", b, y)
		each(a, b, x, y)
	}
}

func TestLongSums(t *testing.T) {
	for _, words := range lengths() {
		pairs(t, words, func(a, b Int, x, y *big.Int) {
			wantBig(t, "Add", a.Add(b), new(big.Int).Add(x, y))
			wantBig(t, "Sub", a.Sub(b), new(big.Int).Sub(x, y))
			wantBig(t, "Neg", a.Neg(), new(big.Int).Neg(x))
			wantBig(t, "nothing left", a.Add(a.Neg()), new(big.Int))
			want(t, "Cmp", a.Cmp(b), x.Cmp(y))
			want(t, "Cmp with itself", a.Cmp(a.Add(b).Sub(b)), 0)
			want(t, "Sign", a.Sign(), x.Sign())
		})
	}
}

func TestLongProducts(t *testing.T) {
	for _, words := range lengths() {
		pairs(t, words, func(a, b Int, x, y *big.Int) {
			wantBig(t, "Mul", a.Mul(b), new(big.Int).Mul(x, y))
			wantBig(t, "square", a.Mul(a), new(big.Int).Mul(x, x))
			p, _ := b.Pow(5)
			wantBig(t, "Pow", p, new(big.Int).Exp(y, big.NewInt(5), nil))
		})
	}
}

func TestLongQuotients(t *testing.T) {
	for _, words := range lengths() {
		d := draw{uint64(words)}
		pairs(t, words, func(a, b Int, x, y *big.Int) {
			if y.Sign() == 0 {
				return
			}
			wantDiv(t, a, b, x, y)
			z := d.big(words)
			// Quotients that end in 0 words, and rests that are as large or as small as they can be.
			product := new(big.Int).Mul(y, z)
			wantDiv(t, fromBig(product), b, product, y)
			product.Sub(product, big.NewInt(1))
			wantDiv(t, fromBig(product), b, product, y)
			x = product.Mul(product, x)
			wantDiv(t, fromBig(x), b, x, y)
		})
	}
}

func wantDiv(t *testing.T, a, b Int, x, y *big.Int) {
	t.Helper()
	q, r, f := a.Div(b)
	p, s := new(big.Int).DivMod(x, y, new(big.Int))
	want(t, "fault", f, fault(0, 0))
	wantBig(t, "quotient", q, p)
	wantBig(t, "rest", r, s)
}

// A word of the quotient that is guessed too large, in each of the ways that there are.
func TestQuotientsThatAreGuessedWrong(t *testing.T) {
	const top = 1 << 63
	const full = 1<<64 - 1
	for _, b := range [][]uint64{{full, top}, {full, full, top}, {0, 1, top}, {full, 0, top}, {1, 0, top}, {0, top}, {full, full}} {
		for _, hi := range []uint64{0, 1, top - 1, top, full} {
			for _, mid := range []uint64{0, 1, top - 1, top, full} {
				for _, lo := range []uint64{0, full} {
					a := front([]uint64{lo, 0, mid, hi, mid, hi}, 6)
					wantDiv(t, signed(false, a), signed(false, b), toBig(signed(false, a)), toBig(signed(false, b)))
				}
			}
		}
	}
}

func TestLongDivisors(t *testing.T) {
	for _, words := range lengths()[:6] {
		pairs(t, words, func(a, b Int, x, y *big.Int) {
			g := new(big.Int).GCD(nil, nil, new(big.Int).Abs(x), new(big.Int).Abs(y))
			wantBig(t, "Gcd", Gcd(a, b), g)
			h, u, v := Bezout(a, b)
			wantBig(t, "Bezout's", h, g)
			wantBig(t, "u a + v b", u.Mul(a).Add(v.Mul(b)), g)
			if y.Sign() == 0 {
				return
			}
			part := new(big.Int).Quo(y, g)
			want(t, "u from 0 on", u.Sign() >= 0, true)
			want(t, "u below b/g", toBig(u).CmpAbs(part), -1)
		})
	}
}

// Neighbours among Fibonacci's numbers take the most steps to their divisor.
func TestLongestWayToADivisor(t *testing.T) {
	a, b := Of(1), Of(1)
	for range 2000 {
		a, b = a.Add(b), a
		g, u, v := Bezout(a, b)
		want(t, "divisor", g.Cmp(Of(1)) == 0 && Gcd(b, a).Cmp(g) == 0, true)
		want(t, "u a + v b", u.Mul(a).Add(v.Mul(b)).Cmp(g), 0)
		want(t, "u", u.Sign() >= 0 && u.Cmp(b) < 0, true)
	}
}

func TestLongRoots(t *testing.T) {
	for _, words := range lengths()[:6] {
		pairs(t, words, func(a, b Int, x, y *big.Int) {
			for _, k := range []int{1, 2, 3, 4, 7, 64, 199, 200} {
				if a.Sign() < 0 && k%2 == 0 {
					a, x = a.Neg(), new(big.Int).Neg(x)
				}
				r, f := a.Root(k)
				want(t, "fault", f, fault(0, 0))
				size, power := toBig(r), big.NewInt(int64(k))
				want(t, "sign", size.Sign() == x.Sign(), true)
				size.Abs(size)
				want(t, "not above", new(big.Int).Exp(size, power, nil).CmpAbs(x) <= 0, true)
				size.Add(size, big.NewInt(1))
				want(t, "one more is above", new(big.Int).Exp(size, power, nil).CmpAbs(x) > 0, true)
			}
		})
	}
}

func TestLongTexts(t *testing.T) {
	for _, words := range lengths() {
		pairs(t, words, func(a, b Int, x, y *big.Int) {
			want(t, "text", a.Text() == x.String(), true)
			want(t, "text", b.Text() == y.String(), true)
		})
	}
}

// The greatest power of the longest number that Parse reads, and back.
func TestLongestPower(t *testing.T) {
	a := number(t, "-"+nines(999)+"7")
	p, _ := a.Pow(199)
	x := new(big.Int).Exp(toBig(a), big.NewInt(199), nil)
	wantBig(t, "power", p, x)
	want(t, "text", p.Text() == x.String(), true)
	r, _ := p.Root(199)
	want(t, "root", r.Text(), a.Text())
	q, rest, _ := p.Div(a)
	want(t, "rest", rest.Text(), "0")
	r, _ = q.Root(198)
	want(t, "root", r.Text(), a.Neg().Text())
}

// Numbers share the fronts of slices: what is appended to such a front must not run into the rest of it.
func TestFrontsGrowNoFurther(t *testing.T) {
	w := []uint64{1, 2, 0, 4}
	f := front(w, 3)
	want(t, "length", len(f), 2)
	_ = append(f, 9)
	want(t, "what stands behind", w[2], 0)
	a, b := number(t, nines(200)), number(t, nines(77))
	q, r, _ := a.Div(b)
	before := q.Text()
	_ = append(r.wide, 1<<64-1, 1<<64-1, 1<<64-1)
	want(t, "quotient", q.Text(), before)
}
