package num

import (
	"math"
	"math/big"
	"strings"
	"testing"

	"radicand/api"
)

// P1.7

func TestParseFracReadsFractions(t *testing.T) {
	long := nines(api.MaxDigits)
	power := "1" + strings.Repeat("0", api.MaxDigits-1)
	for _, text := range []string{"0", "1", "-1", "5", "1/2", "-1/2", "2/3", "-7/3", "9223372036854775807/2",
		"-9223372036854775808/3", "1/9223372036854775808", "18446744073709551616/3",
		long, "-" + long, "1/" + long, "-" + long + "/" + power, power + "/" + long} {
		x := fraction(t, text)
		want(t, text, x.Text(), text)
		above, below, bar := strings.Cut(text, "/")
		if !bar {
			below = "1"
		}
		a, b := x.Parts()
		want(t, text, a.Text()+"/"+b.Text(), above+"/"+below)
	}
}

func TestParseFracTellsWhereATextIsNoFraction(t *testing.T) {
	long := nines(api.MaxDigits + 1)
	for text, at := range map[string]int{"": 0, "-": 1, "-0": 1, "007": 1, "12x": 2, "+1": 0, "/": 0, "/2": 0, "-/2": 1, "x/2": 0,
		"1/": 2, "1/0": 2, "1/-2": 2, "1/02": 2, "1/x": 2, "1/2x": 3, "1/2/3": 3, "1//2": 2, "1 /2": 1, "1/ 2": 2, "1/2 ": 3,
		"-0/1": 1, "00/1": 1, "0/": 2, "0/0": 2, "-12/": 4, "-12/034": 4, "12x/5": 2, "1/+2": 2, "2/4x": 3, "1/1/": 3, "1/2-": 3,
		long + "/": len(long) + 1, long + "/2x": len(long) + 2, "1/" + long + "x": len(long) + 2, long + "x": len(long),
		"2/" + long + "/": len(long) + 2} {
		x, f := ParseFrac(text)
		want(t, text, f, fault(api.ErrText, at))
		want(t, text, x.Text(), "0")
	}
}

func TestParseFracTellsWhatIsTooLong(t *testing.T) {
	long := nines(api.MaxDigits + 1)
	// Those with a divisor on both sides, or 1 behind the bar, are too long first.
	for _, text := range []string{long, "-" + long, long + "/2", "2/" + long, "9/" + long, "-9/" + long, long + "/1", long + "/3",
		long + "/" + long, "0/" + long} {
		x, f := ParseFrac(text)
		want(t, text, f, fault(api.ErrLong, 0))
		want(t, text, x.Text(), "0")
	}
}

func TestParseFracTellsWhatIsNotInLowestTerms(t *testing.T) {
	for _, text := range []string{"2/4", "-2/4", "0/1", "0/5", "1/1", "-1/1", "6/3", "3/3", "10/15", "5/1", nines(40) + "/" + nines(20),
		nines(1000) + "/3", "9223372036854775808/2", nines(30) + "/1"} {
		x, f := ParseFrac(text)
		want(t, text, f, fault(api.ErrForm, 0))
		want(t, text, x.Text(), "0")
	}
}

// P1.8, and Over, Whole, Parts

func TestOver(t *testing.T) {
	for _, c := range [][3]string{{"2", "4", "1/2"}, {"-2", "4", "-1/2"}, {"2", "-4", "-1/2"}, {"-2", "-4", "1/2"}, {"0", "-7", "0"},
		{"6", "3", "2"}, {"6", "-3", "-2"}, {"7", "7", "1"}, {"7", "1", "7"}, {"7", "-1", "-7"}, {nines(40), nines(20), "100000000000000000001"},
		{"-9223372036854775808", "-1", "9223372036854775808"}, {"1", "-9223372036854775808", "-1/9223372036854775808"},
		{"-9223372036854775808", "-9223372036854775808", "1"}, {"3", "-9223372036854775808", "-3/9223372036854775808"}} {
		x, f := Over(number(t, c[0]), number(t, c[1]))
		want(t, "fault", f, fault(0, 0))
		want(t, c[0]+" over "+c[1], x.Text(), c[2])
		_, below := x.Parts()
		want(t, "below the bar", below.Sign(), 1)
	}
	for _, a := range []Int{{}, Of(3), number(t, nines(40))} {
		x, f := Over(a, Int{})
		want(t, "fault", f, fault(api.ErrZero, 0))
		want(t, "fraction", x.Text(), "0")
	}
}

func TestWholeAndParts(t *testing.T) {
	for _, text := range ends {
		x := Whole(number(t, text))
		want(t, text, x.Text(), text)
		a, b := x.Parts()
		want(t, text, a.Text()+" "+b.Text(), text+" 1")
	}
}

// What stands behind // in the face.

func TestFloor(t *testing.T) {
	for text, floor := range map[string]string{"-1/2": "-1", "1/2": "0", "0": "0", "3": "3", "-3": "-3", "7/2": "3", "-7/2": "-4",
		"-4/3": "-2", "18446744073709551617/2": "9223372036854775808", "-18446744073709551617/2": "-9223372036854775809",
		"1/" + nines(40): "0", "-1/" + nines(40): "-1"} {
		want(t, text, fraction(t, text).Floor().Text(), floor)
	}
}

func TestQuo(t *testing.T) {
	for _, c := range [][3]string{{"1/2", "1/3", "3/2"}, {"-1/2", "1/4", "-2"}, {"1/2", "-1/4", "-2"}, {"-1/2", "-1/4", "2"}, {"0", "-5", "0"},
		{"6", "4", "3/2"}, {"6", "-4", "-3/2"}, {"5", "5", "1"}, {"1", "-9223372036854775808", "-1/9223372036854775808"}} {
		x, f := fraction(t, c[0]).Quo(fraction(t, c[1]))
		want(t, "fault", f, fault(0, 0))
		want(t, c[0]+" by "+c[1], x.Text(), c[2])
	}
	for _, text := range []string{"0", "1/2", "-3"} {
		x, f := fraction(t, text).Quo(Frac{})
		want(t, "fault", f, fault(api.ErrZero, 0))
		want(t, "quotient", x.Text(), "0")
	}
}

func TestZeroFracIsZero(t *testing.T) {
	var z Frac
	half := fraction(t, "1/2")
	for _, c := range []struct {
		got  Frac
		want string
	}{{z, "0"}, {z.Neg(), "0"}, {z.Add(z), "0"}, {z.Add(half), "1/2"}, {half.Add(z), "1/2"}, {z.Sub(half), "-1/2"}, {half.Sub(half), "0"},
		{z.Mul(half), "0"}, {half.Mul(z), "0"}, {half.Add(half), "1"}, {half.Mul(Whole(Of(2))), "1"}} {
		want(t, "zero value", c.got.Text(), c.want)
		_, below := c.got.Parts()
		want(t, "below the bar", below.Sign(), 1)
	}
	a, b := z.Parts()
	want(t, "parts", a.Text()+" "+b.Text(), "0 1")
	want(t, "sign", z.Sign(), 0)
	want(t, "floor", z.Floor().Text(), "0")
	want(t, "order", z.Cmp(half) == -1 && half.Cmp(z) == 1 && z.Cmp(Whole(Int{})) == 0, true)
}

// Fractions, held against those of math/big.

func fromRat(t *testing.T, r *big.Rat) Frac {
	x, f := Over(fromBig(r.Num()), fromBig(r.Denom()))
	want(t, "fault", f, fault(0, 0))
	return x
}

func wantRat(t *testing.T, what string, got Frac, wanted *big.Rat) {
	t.Helper()
	a, b := got.Parts()
	wantBig(t, what+", above the bar", a, wanted.Num())
	wantBig(t, what+", below the bar", b, wanted.Denom())
	want(t, what, got.Text(), strings.TrimSuffix(wanted.String(), "/1"))
	want(t, what+", sign", got.Sign(), wanted.Sign())
}

func (d *draw) rat(words int) *big.Rat {
	a, b := d.big(words), d.big(words)
	if b.Sign() == 0 || d.below(5) == 0 {
		b.SetInt64(int64(1 + d.below(60)))
	}
	return new(big.Rat).SetFrac(a, b)
}

func TestFractionsOfManyDigits(t *testing.T) {
	for _, words := range []int{1, 2, 5, 30} {
		d := draw{uint64(words)}
		for range 1500 / words {
			p, q := d.rat(words), d.rat(words)
			if d.below(3) == 0 {
				q.Mul(q, new(big.Rat).SetFrac64(1, int64(1+d.below(40))))
				p.Mul(p, new(big.Rat).SetFrac64(1, int64(1+d.below(40))))
			}
			wantFracs(t, fromRat(t, p), fromRat(t, q), p, q)
			wantFracs(t, fromRat(t, p), fromRat(t, p), p, p)
		}
	}
}

func wantFracs(t *testing.T, x, y Frac, p, q *big.Rat) {
	t.Helper()
	wantRat(t, "itself", x, p)
	wantRat(t, "Add", x.Add(y), new(big.Rat).Add(p, q))
	wantRat(t, "Sub", x.Sub(y), new(big.Rat).Sub(p, q))
	wantRat(t, "Mul", x.Mul(y), new(big.Rat).Mul(p, q))
	wantRat(t, "Neg", x.Neg(), new(big.Rat).Neg(p))
	want(t, "Cmp", x.Cmp(y), p.Cmp(q))
	floor := new(big.Int).Div(p.Num(), p.Denom())
	wantBig(t, "Floor", x.Floor(), floor)
	if q.Sign() != 0 {
		z, f := x.Quo(y)
		want(t, "fault", f, fault(0, 0))
		wantRat(t, "Quo", z, new(big.Rat).Quo(p, q))
	}
	wantRat(t, "what it was", x, p)
	wantRat(t, "what it was", y, q)
}

func TestSmallFractions(t *testing.T) {
	for a := -6; a <= 6; a++ {
		for b := 1; b <= 6; b++ {
			for c := -6; c <= 6; c++ {
				for d := 1; d <= 6; d++ {
					p, q := big.NewRat(int64(a), int64(b)), big.NewRat(int64(c), int64(d))
					wantFracs(t, fromRat(t, p), fromRat(t, q), p, q)
				}
			}
		}
	}
}

func TestFractionsAtTheEndsOfInt(t *testing.T) {
	for _, a := range []int64{math.MinInt64, math.MinInt64 + 1, -1, 1, math.MaxInt64} {
		for _, b := range []int64{math.MinInt64, -3, 1, 2, math.MaxInt64} {
			p, q := new(big.Rat).SetFrac64(a, b), new(big.Rat).SetFrac64(b, a)
			wantFracs(t, fromRat(t, p), fromRat(t, q), p, q)
		}
	}
}
