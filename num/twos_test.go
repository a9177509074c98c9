package num

import (
	"math/big"
	"testing"
)

// Products and quotients by powers of 2, and by numbers that are nearly some: P1.5, and what stands behind // in the
// face.
func TestPowersOfTwo(t *testing.T) {
	d := draw{99}
	for _, words := range []int{1, 2, 3, 60, 130} {
		for n := 0; n < 64*words+70; n += 1 + d.below(1+2*words) {
			x, two := d.big(words), new(big.Int).Lsh(big.NewInt(1), uint(n))
			for off := int64(-1); off <= 1; off++ {
				for _, sign := range []int64{-1, 1} {
					y := new(big.Int).Add(two, big.NewInt(off))
					y.Mul(y, big.NewInt(sign))
					wantProduct(t, x, y)
					wantProduct(t, y, y)
					wantQuotient(t, x, y)
					wantQuotient(t, y, x)
					wantQuotient(t, new(big.Int).Mul(x, y), y)
				}
			}
		}
	}
}

func wantProduct(t *testing.T, x, y *big.Int) {
	t.Helper()
	wanted := new(big.Int).Mul(x, y)
	wantBig(t, "product", fromBig(x).Mul(fromBig(y)), wanted)
	wantBig(t, "product", fromBig(y).Mul(fromBig(x)), wanted)
}

func wantQuotient(t *testing.T, x, y *big.Int) {
	t.Helper()
	if y.Sign() == 0 {
		return
	}
	q, r, _ := fromBig(x).Div(fromBig(y))
	e, f := new(big.Int).DivMod(x, y, new(big.Int))
	wantBig(t, "quotient", q, e)
	wantBig(t, "rest", r, f)
}

// What is written behind a product or a quotient, or a rest, is no part of another one.
func TestPowersOfTwoShareNothing(t *testing.T) {
	x := new(big.Int).Lsh(big.NewInt(12345), 200)
	a, two := fromBig(x), fromBig(new(big.Int).Lsh(big.NewInt(1), 130))
	p := a.Mul(two)
	q, r, _ := p.Add(Of(7)).Div(two)
	wantBig(t, "quotient", q, x)
	wantBig(t, "rest", r, big.NewInt(7))
	q, r = q.Add(q), r.Sub(two)
	wantBig(t, "argument", a, x)
	wantBig(t, "product", p, new(big.Int).Lsh(x, 130))
}
