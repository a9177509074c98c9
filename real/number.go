package real

import (
	"cmp"
	"slices"
	"strconv"
	"strings"

	"radicand/api"
	"radicand/factor"
	"radicand/num"
	"radicand/poly"
	"radicand/roots"
)

// A number is a real root of a primitive irreducible polynomial.
type number struct {
	f    poly.Poly
	all  []*roots.Root // the real roots of f, rising
	rank int           // which of them it is
}

func (x number) root() *roots.Root { return x.all[x.rank] }

// read is a, and the fault of what is not written as an algebraic number.
func read(a api.Alg) (number, api.Fault) {
	f, fault := poly.New(a.F)
	if fault.Code != 0 {
		return number{}, fault
	}
	if f.Degree() > api.MaxFactor {
		return number{}, api.Fault{Code: api.ErrMany}
	}
	_, primitive := f.Primitive()
	if is, _ := factor.Irreducible(f); !is || !f.Same(primitive) {
		return number{}, api.Fault{Code: api.ErrForm}
	}
	all := roots.All(f)
	if a.K < 0 || a.K >= len(all) {
		return number{}, api.Fault{Code: api.ErrRange}
	}
	return number{f, all, a.K}, api.Fault{}
}

// readTwo is a and b, and the fault of the first that has one.
func readTwo(a, b api.Alg) (x, y number, fault api.Fault) {
	if x, fault = read(a); fault.Code != 0 {
		return number{}, number{}, fault
	}
	if y, fault = read(b); fault.Code != 0 {
		return number{}, number{}, fault
	}
	return x, y, api.Fault{}
}

// told is x as it is written.
func (x number) told() api.Alg { return api.Alg{F: x.f.Texts(), K: x.rank} }

// rootsOf is all real numbers at which p is 0, each once, in no order; and the fault of factor.Factor.
func rootsOf(p poly.Poly) ([]number, api.Fault) {
	_, parts, fault := factor.Factor(p)
	if fault.Code != 0 {
		return nil, fault
	}
	var xs []number
	for _, part := range parts {
		f := readLong(part.F)
		all := roots.All(f)
		for i := range len(all) {
			xs = append(xs, number{f, all, i})
		}
	}
	return xs, api.Fault{}
}

// readLong is the polynomial with these integers, which may be longer than poly.New reads, as coefficients.
func readLong(texts []string) poly.Poly {
	cs := make([]num.Frac, len(texts))
	for i, text := range texts {
		cs[i] = num.Whole(longInt(text))
	}
	return poly.Of(cs...)
}

// longInt is the integer of that text.
func longInt(text string) num.Int {
	// So many digits are an int always.
	const most = 18
	digits, below := strings.CutPrefix(text, "-")
	var a num.Int
	for digits != "" {
		n := (len(digits)-1)%most + 1
		d, _ := strconv.Atoi(digits[:n])
		a = a.Mul(num.Of(1e18)).Add(num.Of(d))
		digits = digits[n:]
	}
	if below {
		return a.Neg()
	}
	return a
}

// order is -1, 0 or 1, as x is below y, is y, or above it.
func order(x, y number) int {
	if x.f.Same(y.f) {
		return cmp.Compare(x.rank, y.rank)
	}
	return roots.Cmp(x.root(), y.root())
}

// near is the greatest integer that is not above x times 10^n.
func (x number) near(n int) num.Int {
	ten, _ := num.Of(10).Pow(n)
	sixteen, _ := num.Of(16).Pow(n)
	// From the root's Floor to the next number it is 1 over sixteen, so at most 1 over ten: it is this, or one more.
	low, _, _ := x.root().Floor(4 * n).Mul(ten).Div(sixteen)
	more := low.Add(num.Of(1))
	if at, _ := num.Over(more, ten); x.root().Against(at) >= 0 {
		return more
	}
	return low
}

// neg is -x: the polynomial at -x has the roots the other way round.
func (x number) neg() number {
	cs := x.coefficients()
	for i := range cs {
		if i%2 == 1 {
			cs[i] = cs[i].Neg()
		}
	}
	return number{f: withPlus(cs), rank: len(x.all) - 1 - x.rank}
}

// inv is 1 over x, which is not 0: among the numbers below 0, and among those above it, the roots go the other way
// round.
func (x number) inv() number {
	cs := x.coefficients()
	slices.Reverse(cs)
	below := 0
	for _, r := range x.all {
		if r.Below() {
			below++
		}
	}
	rank := below - 1 - x.rank
	if rank < 0 {
		rank += len(x.all)
	}
	return number{f: withPlus(cs), rank: rank}
}

func (x number) coefficients() []num.Frac {
	cs := make([]num.Frac, x.f.Degree()+1)
	for i := range cs {
		cs[i] = x.f.At(i)
	}
	return cs
}

// withPlus is the polynomial with these coefficients, or with their opposites, if the last of them is below 0.
func withPlus(cs []num.Frac) poly.Poly {
	f := poly.Of(cs...)
	if f.Lead().Sign() < 0 {
		return f.Scale(num.Whole(num.Of(-1)))
	}
	return f
}
