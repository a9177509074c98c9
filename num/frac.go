package num

import (
	"cmp"
	"strings"

	"radicand/api"
)

// Frac is a fraction. The zero value is 0.
type Frac struct {
	top    Int
	bottom Int // above 1, without a common divisor with top; or 0: the fraction is top itself
}

// Over is a divided by b.
func Over(a, b Int) (Frac, api.Fault) {
	if b.small == 0 {
		return Frac{}, api.Fault{Code: api.ErrZero}
	}
	g := Gcd(a, b)
	return lowest(share(a, g), share(b, g)), api.Fault{}
}

// Whole is a.
func Whole(a Int) Frac { return Frac{top: a} }

// lowest is a divided by b, which is not 0 and has no common divisor with a.
func lowest(a, b Int) Frac {
	if b.small < 0 {
		a, b = a.Neg(), b.Neg()
	}
	if isOne(b) {
		return Whole(a)
	}
	return Frac{top: a, bottom: b}
}

// share is a divided by g, which is above 0 and divides it.
func share(a, g Int) Int {
	if isOne(g) {
		return a
	}
	q, _ := cut(a, g)
	return q
}

func isOne(a Int) bool { return a.small == 1 && a.wide == nil }

// under is what stands below the bar.
func (x Frac) under() Int {
	if x.bottom.small == 0 {
		return Of(1)
	}
	return x.bottom
}

// ParseFrac reads a fraction.
func ParseFrac(text string) (Frac, api.Fault) {
	above, below, bar := strings.Cut(text, "/")
	if !bar || numberLen(above) < len(above) || !endsInDigit(above) {
		a, f := Parse(text)
		return Whole(a), f
	}
	n := digitsLen(below)
	if n == 0 || n < len(below) {
		return Frac{}, api.Fault{Code: api.ErrText, At: len(above) + 1 + n}
	}
	if tooLong(above) || tooLong(below) {
		return Frac{}, api.Fault{Code: api.ErrLong}
	}
	a, b := value(above), value(below)
	if isOne(b) || !isOne(Gcd(a, b)) {
		return Frac{}, api.Fault{Code: api.ErrForm}
	}
	return Frac{top: a, bottom: b}, api.Fault{}
}

// Text is the fraction in lowest terms.
func (x Frac) Text() string {
	if x.bottom.small == 0 {
		return x.top.Text()
	}
	return x.top.Text() + "/" + x.bottom.Text()
}

// Parts is what stands above and below the bar, in lowest terms.
func (x Frac) Parts() (Int, Int) { return x.top, x.under() }

// Sign is -1, 0 or 1.
func (x Frac) Sign() int { return x.top.Sign() }

// Cmp is -1, 0 or 1, as x is below y, is y, or above it.
func (x Frac) Cmp(y Frac) int {
	if x.bottom.small == 0 && y.bottom.small == 0 {
		return x.top.Cmp(y.top)
	}
	if x.Sign() != y.Sign() {
		return cmp.Compare(x.Sign(), y.Sign())
	}
	return x.top.Mul(y.under()).Cmp(y.top.Mul(x.under()))
}

// Neg is -x.
func (x Frac) Neg() Frac { return Frac{top: x.top.Neg(), bottom: x.bottom} }

// Add is x + y.
func (x Frac) Add(y Frac) Frac {
	if x.bottom.small == 0 && y.bottom.small == 0 {
		return Whole(x.top.Add(y.top))
	}
	b, d := x.under(), y.under()
	g := Gcd(b, d)
	b1, d1 := share(b, g), share(d, g)
	top := x.top.Mul(d1).Add(y.top.Mul(b1))
	// The divisors of b1 and d1 are none of top's: what both sides still share is in g.
	g = Gcd(top, g)
	return lowest(share(top, g), b1.Mul(share(d, g)))
}

// Sub is x - y.
func (x Frac) Sub(y Frac) Frac { return x.Add(y.Neg()) }

// Mul is x times y.
func (x Frac) Mul(y Frac) Frac {
	if x.bottom.small == 0 && y.bottom.small == 0 {
		return Whole(x.top.Mul(y.top))
	}
	g, h := Gcd(x.top, y.under()), Gcd(y.top, x.under())
	return lowest(share(x.top, g).Mul(share(y.top, h)), share(x.under(), h).Mul(share(y.under(), g)))
}

// Quo is x divided by y.
func (x Frac) Quo(y Frac) (Frac, api.Fault) {
	if y.top.small == 0 {
		return Frac{}, api.Fault{Code: api.ErrZero}
	}
	return x.Mul(lowest(y.under(), y.top)), api.Fault{}
}

// Floor is the greatest integer that is not above x.
func (x Frac) Floor() Int {
	if x.bottom.small == 0 {
		return x.top
	}
	q, _ := cut(x.top, x.bottom)
	return q
}
