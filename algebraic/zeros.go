package algebraic

import (
	"slices"
	"strconv"
	"strings"

	"radicand/api"
	"radicand/factor"
	"radicand/num"
	"radicand/poly"
	"radicand/roots"
)

// A Zero is a number at which a polynomial is 0, and how often.
type Zero struct {
	Number
	Times int
}

// Zeros is all real numbers at which p is 0, rising, each once; and the fault of factor.Factor.
func Zeros(p poly.Poly) ([]Zero, api.Fault) {
	_, parts, fault := factor.Factor(p)
	if fault.Code != 0 {
		return nil, fault
	}
	var zs []Zero
	for _, part := range parts {
		f := readLong(part.F)
		all := roots.All(f)
		for i := range len(all) {
			zs = append(zs, Zero{Number{f, all, i}, part.N})
		}
	}
	slices.SortFunc(zs, func(a, b Zero) int { return a.Cmp(b.Number) })
	return zs, api.Fault{}
}

// readLong is the polynomial with these integers, which may be longer than poly.New reads, as coefficients.
func readLong(texts []string) poly.Poly {
	cs := make([]num.Frac, len(texts))
	for i, text := range texts {
		cs[i] = num.Whole(longInt(text))
	}
	return poly.Of(cs...)
}

// longInt is the integer of that text.
func longInt(text string) num.Int {
	// So many digits are an int always.
	const most = 18
	digits, below := strings.CutPrefix(text, "-")
	var a num.Int
	for digits != "" {
		n := (len(digits)-1)%most + 1
		d, _ := strconv.Atoi(digits[:n])
		a = a.Mul(num.Of(1e18)).Add(num.Of(d))
		digits = digits[n:]
	}
	if below {
		return a.Neg()
	}
	return a
}
