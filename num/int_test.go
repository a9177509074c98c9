package num

import (
	"math"
	"strings"
	"testing"

	"radicand/api"
)

// P1.1

func TestParseReadsNumbers(t *testing.T) {
	for text, n := range map[string]int{"0": 0, "7": 7, "-7": -7, "10": 10, "1000000007": 1000000007, "-90": -90,
		"9223372036854775807": math.MaxInt, "-9223372036854775808": math.MinInt} {
		want(t, text, number(t, text).Cmp(Of(n)), 0)
		want(t, text, number(t, text).Text(), text)
	}
	for _, text := range []string{"999999999999999999", "1000000000000000000", "-1000000000000000000", "9999999999999999999",
		"10000000000000000000", "10000000000000000000000000000000000000000", "9223372036854775808", "-9223372036854775809"} {
		want(t, text, number(t, text).Text(), text)
	}
}

func TestParseTellsWhereATextIsNoNumber(t *testing.T) {
	long := nines(api.MaxDigits + 1)
	for text, at := range map[string]int{"": 0, "-": 1, "-0": 1, "007": 1, "12x": 2, "+1": 0, "00": 1, "0-": 1, "0x1": 1,
		"--1": 1, "-01": 1, "-x": 1, "- 1": 1, " 1": 0, "1 ": 1, "1-": 1, "1.5": 1, "1/2": 1, "x": 0, "-5-": 2, "1\x00": 1,
		"1e3": 1, "1_000": 1, "0x": 1, "٣": 0, "1٣": 1, "\xff": 0, "0\n": 1, "-00": 1,
		long + "x": len(long), "-" + long + "x": len(long) + 1, long + "/": len(long), "0" + long: 1} {
		a, f := Parse(text)
		want(t, text, f, fault(api.ErrText, at))
		want(t, text, a.Text(), "0")
	}
}

func TestParseTellsWhatIsTooLong(t *testing.T) {
	for _, text := range []string{nines(api.MaxDigits), "-" + nines(api.MaxDigits), "1" + strings.Repeat("0", api.MaxDigits-1)} {
		want(t, text, number(t, text).Text(), text)
	}
	for _, text := range []string{nines(api.MaxDigits + 1), "-" + nines(api.MaxDigits+1), "1" + strings.Repeat("0", 5000)} {
		a, f := Parse(text)
		want(t, text, f, fault(api.ErrLong, 0))
		want(t, text, a.Text(), "0")
	}
}

// P1.2

func TestTextIsReadAgain(t *testing.T) {
	d := draw{1}
	for range 2000 {
		text := d.big(40).String()
		want(t, text, number(t, text).Text(), text)
	}
}

func TestTextHasAllDigits(t *testing.T) {
	want(t, "zero", Int{}.Text(), "0")
	want(t, "below", Of(math.MinInt).Text(), "-9223372036854775808")
	ten := Of(1)
	for n := range 3000 {
		if n < 100 || n%97 == 0 {
			want(t, "power of ten", ten.Text(), "1"+strings.Repeat("0", n))
			want(t, "its opposite", ten.Neg().Text(), "-1"+strings.Repeat("0", n))
			want(t, "one more", ten.Mul(Of(10)).Add(Of(1)).Text(), "1"+strings.Repeat("0", n)+"1")
			want(t, "one less", ten.Mul(Of(10)).Sub(Of(1)).Text(), nines(n+1))
		}
		ten = ten.Mul(Of(10))
	}
}

func TestTextMayBeLongerThanParseReads(t *testing.T) {
	a, _ := number(t, nines(api.MaxDigits)).Pow(2)
	want(t, "square", a.Text(), nines(api.MaxDigits-1)+"8"+strings.Repeat("0", api.MaxDigits-1)+"1")
}

// P1.3

func TestPow(t *testing.T) {
	for _, c := range []struct {
		a, n int
		p    string
	}{{0, 0, "1"}, {0, 1, "0"}, {0, 200, "0"}, {1, 200, "1"}, {-1, 199, "-1"}, {-1, 200, "1"}, {7, 0, "1"}, {-7, 1, "-7"},
		{2, 62, "4611686018427387904"}, {2, 63, "9223372036854775808"}, {-2, 63, "-9223372036854775808"},
		{-2, 64, "18446744073709551616"}, {10, 200, "1" + strings.Repeat("0", 200)}, {-3, 5, "-243"},
		{math.MinInt, 2, "85070591730234615865843651857942052864"}} {
		p, f := Of(c.a).Pow(c.n)
		want(t, "fault", f, fault(0, 0))
		want(t, "power", p.Text(), c.p)
	}
}

func TestPowOutOfRange(t *testing.T) {
	for _, n := range []int{-1, -2, math.MinInt, api.MaxPower + 1, math.MaxInt} {
		for _, a := range []int{0, 1, -1, 5} {
			p, f := Of(a).Pow(n)
			want(t, "fault", f, fault(api.ErrRange, 0))
			want(t, "power", p.Text(), "0")
		}
	}
}

// P1.4

func TestRoot(t *testing.T) {
	for _, c := range []struct{ a, k, r int }{{-30, 3, -3}, {-27, 3, -3}, {-26, 3, -2}, {27, 3, 3}, {28, 3, 3}, {26, 3, 2},
		{0, 1, 0}, {0, 2, 0}, {0, 200, 0}, {1, 200, 1}, {-1, 199, -1}, {-5, 1, -5}, {5, 1, 5}, {2, 2, 1}, {3, 2, 1}, {4, 2, 2},
		{8, 2, 2}, {9, 2, 3}, {-7, 3, -1}, {-8, 3, -2}, {math.MaxInt, 2, 3037000499}, {math.MinInt, 63, -2},
		{math.MinInt, 65, -1}, {math.MaxInt, 63, 1}, {math.MinInt, 1, math.MinInt}, {math.MaxInt, 200, 1}} {
		r, f := Of(c.a).Root(c.k)
		want(t, "fault", f, fault(0, 0))
		want(t, "root", r.Text(), Of(c.r).Text())
	}
}

func TestRootOfPowers(t *testing.T) {
	for k := 2; k <= api.MaxPower; k++ {
		for _, base := range []Int{Of(2), Of(3), Of(10), Of(255), Of(1 << 40), number(t, nines(25)), number(t, "1"+strings.Repeat("0", 40))} {
			p, _ := base.Pow(k)
			at, _ := p.Root(k)
			above, _ := p.Add(Of(1)).Root(k)
			below, _ := p.Sub(Of(1)).Root(k)
			want(t, "root", at.Text(), base.Text())
			want(t, "root of one more", above.Text(), base.Text())
			want(t, "root of one less", below.Text(), base.Sub(Of(1)).Text())
			if k%2 == 1 {
				at, _ = p.Neg().Root(k)
				below, _ = p.Sub(Of(1)).Neg().Root(k)
				want(t, "root below 0", at.Text(), base.Neg().Text())
				want(t, "root below 0, nearer to 0", below.Text(), Of(1).Sub(base).Text())
			}
		}
	}
}

func TestRootFaults(t *testing.T) {
	for _, c := range []struct{ a, k, code int }{{4, 0, api.ErrRange}, {4, -1, api.ErrRange}, {4, 201, api.ErrRange},
		{-4, 0, api.ErrRange}, {-4, -2, api.ErrRange}, {-4, 202, api.ErrRange}, {0, 0, api.ErrRange},
		{4, math.MinInt, api.ErrRange}, {4, math.MaxInt, api.ErrRange},
		{-4, 2, api.ErrNone}, {-1, 200, api.ErrNone}, {math.MinInt, 2, api.ErrNone}} {
		r, f := Of(c.a).Root(c.k)
		want(t, "fault", f, fault(c.code, 0))
		want(t, "root", r.Text(), "0")
	}
	_, f := number(t, "-"+nines(100)).Root(4)
	want(t, "fault", f, fault(api.ErrNone, 0))
}

// P1.5

func TestDiv(t *testing.T) {
	for _, c := range [][4]string{{"-7", "2", "-4", "1"}, {"-7", "-2", "4", "1"}, {"7", "2", "3", "1"}, {"7", "-2", "-3", "1"},
		{"6", "3", "2", "0"}, {"-6", "3", "-2", "0"}, {"-6", "-3", "2", "0"}, {"0", "5", "0", "0"}, {"0", "-5", "0", "0"},
		{"1", "5", "0", "1"}, {"-1", "5", "-1", "4"}, {"-1", "-5", "1", "4"}, {"1", "-5", "0", "1"},
		{"-9223372036854775808", "-1", "9223372036854775808", "0"},
		{"-9223372036854775808", "9223372036854775807", "-2", "9223372036854775806"},
		{"9223372036854775807", "-9223372036854775808", "0", "9223372036854775807"},
		{"-9223372036854775807", "-9223372036854775808", "1", "1"},
		{"-1", "-9223372036854775808", "1", "9223372036854775807"},
		{"-1", "18446744073709551616", "-1", "18446744073709551615"},
		{"-340282366920938463463374607431768211456", "18446744073709551616", "-18446744073709551616", "0"},
		{"340282366920938463463374607431768211455", "18446744073709551616", "18446744073709551615", "18446744073709551615"}} {
		q, r, f := number(t, c[0]).Div(number(t, c[1]))
		want(t, "fault", f, fault(0, 0))
		want(t, c[0]+" by "+c[1], q.Text()+" "+r.Text(), c[2]+" "+c[3])
	}
}

func TestDivByNought(t *testing.T) {
	for _, a := range []Int{{}, Of(1), Of(-1), number(t, nines(50))} {
		q, r, f := a.Div(Int{})
		want(t, "fault", f, fault(api.ErrZero, 0))
		want(t, "parts", q.Text()+" "+r.Text(), "0 0")
	}
}

// P1.6, and Gcd

func TestBezout(t *testing.T) {
	for _, c := range [][5]string{{"12", "18", "6", "2", "-1"}, {"12", "-18", "6", "2", "1"}, {"-12", "18", "6", "1", "1"},
		{"-12", "-18", "6", "1", "-1"}, {"0", "0", "0", "0", "0"}, {"5", "0", "5", "1", "0"}, {"-5", "0", "5", "-1", "0"},
		{"0", "5", "5", "0", "1"}, {"0", "-5", "5", "0", "-1"}, {"6", "3", "3", "0", "1"}, {"6", "-3", "3", "0", "-1"},
		{"3", "6", "3", "1", "0"}, {"-3", "6", "3", "1", "1"}, {"1", "1", "1", "0", "1"}, {"7", "1", "1", "0", "1"},
		{"-9223372036854775808", "0", "9223372036854775808", "-1", "0"},
		{"-9223372036854775808", "-9223372036854775808", "9223372036854775808", "0", "-1"},
		{"9223372036854775807", "-9223372036854775808", "1", "9223372036854775807", "9223372036854775806"}} {
		g, u, v := Bezout(number(t, c[0]), number(t, c[1]))
		want(t, c[0]+" and "+c[1], g.Text()+" "+u.Text()+" "+v.Text(), c[2]+" "+c[3]+" "+c[4])
	}
}

func TestGcd(t *testing.T) {
	for _, c := range [][3]string{{"0", "0", "0"}, {"0", "-4", "4"}, {"-4", "0", "4"}, {"12", "-18", "6"}, {"-12", "18", "6"},
		{"17", "5", "1"}, {"48", "36", "12"}, {"-9223372036854775808", "0", "9223372036854775808"},
		{"-9223372036854775808", "-9223372036854775808", "9223372036854775808"},
		{"-9223372036854775808", "6", "2"}, {"0", nines(40), nines(40)}, {nines(40), nines(24), nines(8)},
		{nines(40), "-33", "33"}, {"99", "-" + nines(40), "99"}, {"340282366920938463463374607431768211456", "-96", "32"}} {
		want(t, c[0]+" and "+c[1], Gcd(number(t, c[0]), number(t, c[1])).Text(), c[2])
	}
}

// What stands behind // in the face.

func TestSmall(t *testing.T) {
	for _, n := range []int{0, 1, -1, math.MaxInt, math.MinInt, math.MaxInt - 1, math.MinInt + 1} {
		m, is := number(t, Of(n).Text()).Small()
		want(t, "is an int", is, true)
		want(t, "which", m, n)
	}
	for _, text := range []string{"9223372036854775808", "-9223372036854775809", "18446744073709551615", "18446744073709551616",
		"-18446744073709551616", "-18446744073709551617", nines(100), "-" + nines(100)} {
		m, is := number(t, text).Small()
		want(t, text, is, false)
		want(t, text, m, 0)
	}
	m, is := number(t, "9223372036854775808").Sub(Of(1)).Small()
	want(t, "back in range", is && m == math.MaxInt, true)
	m, is = number(t, "-9223372036854775809").Add(Of(1)).Small()
	want(t, "back in range", is && m == math.MinInt, true)
	m, is = number(t, "9223372036854775808").Neg().Small()
	want(t, "back in range", is && m == math.MinInt, true)
}

func TestEndsOfInt(t *testing.T) {
	most, least, one := Of(math.MaxInt), Of(math.MinInt), Of(1)
	for _, c := range []struct {
		got  Int
		want string
	}{{most.Add(one), "9223372036854775808"}, {one.Add(most), "9223372036854775808"}, {least.Sub(one), "-9223372036854775809"},
		{least.Add(Of(-1)), "-9223372036854775809"}, {least.Neg(), "9223372036854775808"}, {most.Neg(), "-9223372036854775807"},
		{Int{}.Sub(least), "9223372036854775808"}, {least.Sub(least), "0"}, {least.Add(most), "-1"}, {most.Sub(least), "18446744073709551615"},
		{least.Sub(most), "-18446744073709551615"}, {least.Mul(Of(-1)), "9223372036854775808"}, {Of(-1).Mul(least), "9223372036854775808"},
		{least.Mul(least), "85070591730234615865843651857942052864"}, {most.Mul(least), "-85070591730234615856620279821087277056"},
		{most.Mul(most), "85070591730234615847396907784232501249"}, {Of(1 << 62).Mul(Of(2)), "9223372036854775808"},
		{Of(1 << 62).Mul(Of(-2)), "-9223372036854775808"}, {Of(1 << 32).Mul(Of(1 << 31)), "9223372036854775808"},
		{Of(3037000500).Mul(Of(3037000500)), "9223372037000250000"}, {least.Add(least), "-18446744073709551616"},
		{most.Add(most), "18446744073709551614"}, {least.Mul(Int{}), "0"}} {
		want(t, "sum or product", c.got.Text(), c.want)
	}
}

func TestCmpAndSign(t *testing.T) {
	rising := []string{"-" + nines(60), "-" + nines(40), "-18446744073709551616", "-9223372036854775809", "-9223372036854775808",
		"-9223372036854775807", "-1", "0", "1", "9223372036854775807", "9223372036854775808", "18446744073709551615",
		"18446744073709551616", nines(40), nines(60)}
	for i, a := range rising {
		for j, b := range rising {
			wanted := 0
			if i < j {
				wanted = -1
			} else if i > j {
				wanted = 1
			}
			want(t, a+" and "+b, number(t, a).Cmp(number(t, b)), wanted)
		}
		wanted := 1
		if a == "0" {
			wanted = 0
		} else if a[0] == '-' {
			wanted = -1
		}
		want(t, a, number(t, a).Sign(), wanted)
	}
}

// P1

func TestZeroIntIsZero(t *testing.T) {
	var z Int
	five := Of(5)
	for _, c := range []struct {
		got  Int
		want string
	}{{z, "0"}, {z.Neg(), "0"}, {z.Add(z), "0"}, {z.Add(five), "5"}, {five.Add(z), "5"}, {z.Sub(five), "-5"}, {z.Mul(five), "0"},
		{five.Mul(z), "0"}, {Gcd(z, five), "5"}, {Gcd(z, z), "0"}, {Of(0), "0"}, {five.Sub(five), "0"}} {
		want(t, "zero value", c.got.Text(), c.want)
	}
	want(t, "equal", z.Cmp(number(t, "0")), 0)
	want(t, "sign", z.Sign(), 0)
	n, is := z.Small()
	want(t, "small", is && n == 0, true)
}

func TestNoCallChangesANumber(t *testing.T) {
	var all []Int
	var texts []string
	d := draw{7}
	for range 60 {
		texts = append(texts, d.big(15).String())
	}
	for _, text := range append(texts, ends...) {
		all = append(all, number(t, text))
	}
	texts = append(texts, ends...)
	for _, a := range all {
		for _, b := range all {
			q, r, _ := a.Div(b)
			g, u, v := Bezout(a, b)
			made := []Int{a.Add(b), a.Sub(b), a.Mul(b), a.Neg(), q, r, g, u, v, Gcd(a, b)}
			for _, c := range made {
				c.Add(Of(1)).Sub(b).Mul(a).Text()
				c.Root(3)
				c.Neg().Pow(3)
			}
			want(t, "quotient and rest", q.Mul(b).Add(r).Cmp(a) == 0 || b.Sign() == 0, true)
		}
	}
	for i, a := range all {
		want(t, "number", a.Text(), texts[i])
	}
}
