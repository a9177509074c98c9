package real

import (
	"testing"

	"radicand/api"
	"radicand/num"
)

// P5.3

func wantNear(t *testing.T, a api.Alg, n int, wanted string) {
	t.Helper()
	m, f := Near(a, n)
	want(t, "fault", f, none)
	want(t, "Near of "+told(a), m.Text(), wanted)
}

func TestNear(t *testing.T) {
	for _, c := range []struct {
		f      string
		k, n   int
		wanted string
	}{
		{"-2 0 1", 1, 3, "1414"}, {"-2 0 1", 0, 3, "-1415"}, {"-2 0 1", 1, 0, "1"}, {"-2 0 1", 0, 0, "-2"}, {"-2 0 1", 1, 20, "141421356237309504880"},
		{"0 1", 0, 0, "0"}, {"0 1", 0, 100, "0"}, {"-3 1", 0, 0, "3"}, {"3 1", 0, 0, "-3"}, {"3 1", 0, 2, "-300"},
		// Fractions: some are at the number itself, some above it.
		{"-1 5", 0, 0, "0"}, {"-1 5", 0, 1, "2"}, {"1 5", 0, 0, "-1"}, {"1 5", 0, 1, "-2"}, {"-1 3", 0, 5, "33333"}, {"1 3", 0, 5, "-33334"}, {"-1 8", 0, 2, "12"}, {"-1 8", 0, 3, "125"},
		{"1 8", 0, 2, "-13"}, {"1 8", 0, 3, "-125"}, {"-2 3", 0, 0, "0"}, {"-5 3", 0, 0, "1"}, {"7 2", 0, 0, "-4"},
		{"-1 -1 1", 1, 10, "16180339887"}, {"-1 -1 1", 0, 10, "-6180339888"}, {"1 0 -10 0 1", 3, 5, "314626"}, {"-2 0 0 1", 0, 5, "125992"},
	} {
		wantNear(t, alg(c.f, c.k), c.n, c.wanted)
	}
}

func TestNearFaults(t *testing.T) {
	two := alg("-2 0 1", 1)
	for _, c := range []struct {
		a        api.Alg
		n        int
		code, at int
	}{
		{two, -1, api.ErrRange, 1}, {two, 101, api.ErrRange, 1}, {two, 1 << 62, api.ErrRange, 1}, {two, -1 << 63, api.ErrRange, 1}, {two, 0, 0, 0}, {two, 100, 0, 0},
		{alg("-2 0 1", 2), 101, api.ErrRange, 0}, {alg("-4 0 1", 0), -1, api.ErrForm, 0}, {alg("-2 x 1", 0), -1, api.ErrText, 1},
	} {
		m, f := Near(c.a, c.n)
		want(t, "fault", f, fault(c.code, c.at))
		if c.code != 0 {
			want(t, "number", m.Text(), "0")
		}
	}
}

// All n, for roots of numbers: as num's roots.
func TestNearIsTheRoot(t *testing.T) {
	d := draw{5}
	for n := range 101 {
		ten, _ := num.Of(10).Pow(n)
		for k := 2; k <= 5; k++ {
			c := 2 + d.below(1000)
			f := power(k).Sub(of(c))
			l, _ := Roots(f)
			a := l[len(l)-1]
			if len(a.F) != k+1 {
				continue
			}
			power, _ := ten.Pow(k)
			m, _ := power.Mul(num.Of(c)).Root(k)
			wantNear(t, a, n, m.Text())
			b, _ := Neg(a)
			wantNear(t, b, n, m.Add(num.Of(1)).Neg().Text())
		}
		x := d.frac()
		wantNear(t, Of(x), n, x.Mul(num.Whole(ten)).Floor().Text())
	}
}

// Numbers just below and just above others.
func TestNearCloseToANumber(t *testing.T) {
	for _, n := range []int{1, 10, 50, 99, 100} {
		// The roots of 10^400 - 1 and 10^400 + 1, and these over 10^n.
		far, _ := num.Of(10).Pow(200)
		above, below := far.Mul(far).Add(num.Of(1)), far.Mul(far).Sub(num.Of(1))
		ten, _ := num.Of(10).Pow(n)
		wantNear(t, alg(below.Neg().Text()+" 0 1", 1), n, far.Mul(ten).Sub(num.Of(1)).Text())
		wantNear(t, alg(above.Neg().Text()+" 0 1", 1), n, far.Mul(ten).Text())
		wantNear(t, alg(above.Neg().Text()+" 0 1", 0), n, far.Mul(ten).Neg().Sub(num.Of(1)).Text())
		wantNear(t, alg(below.Neg().Text()+" 0 1", 0), n, far.Mul(ten).Neg().Text())
		square := ten.Mul(ten).Text()
		wantNear(t, alg(below.Neg().Text()+" 0 "+square, 1), n, far.Sub(num.Of(1)).Text())
		wantNear(t, alg(above.Neg().Text()+" 0 "+square, 1), n, far.Text())
		wantNear(t, alg(above.Neg().Text()+" 0 "+square, 0), n, far.Neg().Sub(num.Of(1)).Text())
	}
	// Very near to 0, and very far from it.
	wantNear(t, alg("-3 0 1"+nulls(999), 1), 100, "0")
	wantNear(t, alg("-3 0 1"+nulls(999), 0), 100, "-1")
	wantNear(t, alg("-1 1"+nulls(999), 0), 100, "0")
	wantNear(t, alg("1 1"+nulls(999), 0), 100, "-1")
	wantNear(t, alg("-1"+nulls(999)+" 1", 0), 100, "1"+nulls(1099))
	m, _ := longInt("2" + nulls(1198)).Root(2)
	wantNear(t, alg("-2"+nulls(998)+" 0 1", 1), 100, m.Text())
}
