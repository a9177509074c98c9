package point

import (
	"math/big"
	"strings"
	"testing"

	"radicand/api"
)

func wantNear(t *testing.T, text string, n int, wanted string) {
	t.Helper()
	l, f := Near(parsePoint(text), n)
	want(t, text+": fault", f, none)
	texts := make([]string, len(l))
	for i, a := range l {
		texts[i] = a.Text()
	}
	want(t, text, strings.Join(texts, " "), wanted)
}

// P9.5, by example.
func TestNear(t *testing.T) {
	const two, four = "1: 1 2, -2 0", "1: 1 2, -2 0; 0: 1 0 2, -1 1 0"
	for _, c := range []struct {
		pt     string
		n      int
		wanted string
	}{
		{four, 2, "141 -119"}, {four, 0, "1 -2"}, {two, 20, "141421356237309504880"}, {"0: 1 2, -2 0", 20, "-141421356237309504881"},
		// Integers, and what is nearly some.
		{"1: 1 2, -4 0", 0, "2"}, {"0: 1 2, -4 0", 3, "-2000"}, {two + "; 0: 1 0 1, -1 2 0", 0, "1 2"}, {two + "; 0: 1 0 1, 1 2 0", 5, "141421 -200000"}, {two + "; 0: 1 1 1, -1 3 0", 1, "14 20"},
		{two + "; 0: 1 0 1, 1 2 0, -1/1000000 0 0", 5, "141421 -200000"}, {two + "; 0: 1 0 1, 1 2 0, 1/1000000 0 0", 5, "141421 -200001"}, {two + "; 0: 1000 0 1, -1001 2 0", 3, "1414 2002"},
		{two + "; 0: 1 0 3, -1 1 2, -2 0 1, 1 3 0", 0, "1 -2"}, {two + "; 1: 1 0 3, -1 1 2, -2 0 1, 1 3 0", 0, "1 1"},
		// Fractions.
		{"0: 2 1, -1 0", 0, "0"}, {"0: 2 1, 1 0", 0, "-1"}, {"0: 3 1, -1 0; 0: 1 0 1, 1 1 0", 3, "333 -334"}, {"0: 2 1, -1 0", 100, "5" + strings.Repeat("0", 99)},
		{"0: 1 1", 100, "0"}, {"0: 1 1; 1: 1 0 2, -2 0 0; 0: 1 0 0 2, -1 0 1 0, 1 0 0 0", 4, "0 14142 -6436"},
		{"0: 1 1, -1" + strings.Repeat("0", 50) + " 0", 0, "1" + strings.Repeat("0", 50)},
	} {
		wantNear(t, c.pt, c.n, c.wanted)
	}
}

// The decimals of roots of integers, held against those of math/big.
func TestNearOfSquareRoots(t *testing.T) {
	d := &draw{8}
	for range 60 {
		a := int64(2 + d.below(1000))
		n := d.below(101)
		ten := new(big.Int).Exp(big.NewInt(10), big.NewInt(int64(4*n)), nil)
		first := new(big.Int).Sqrt(new(big.Int).Sqrt(new(big.Int).Mul(ten, big.NewInt(a))))
		pt := []api.Root{{P: []api.Term{{C: "1", E: []int{2}}, {C: big.NewInt(-a).String(), E: []int{0}}}, K: 1}, {P: parse("1 0 2, -1 1 0"), K: 1}}
		l, f := Near(pt, n)
		want(t, "fault", f, none)
		want(t, "fourth root", l[1].Text(), first.String())
	}
}

// What is told is not above the coordinate, and one more is.
func TestNearAgreesWithSign(t *testing.T) {
	d := &draw{9}
	good := 0
	for range 300 {
		k := 1 + d.below(4)
		pt := d.point(k, 2)
		if Check(pt) != none {
			continue
		}
		good++
		n := []int{0, 1, 7, 40, 100}[d.below(5)]
		l, f := Near(pt, n)
		want(t, "fault", f, none)
		want(t, "so many", len(l), k)
		for i, a := range l {
			x := []api.Term{{C: "1" + strings.Repeat("0", n), E: make([]int, k)}, {C: "-" + a.Text(), E: make([]int, k)}}
			x[0].E[i] = 1
			x[1].C = strings.TrimPrefix(strings.TrimPrefix(x[1].C, "--"), "-0")
			if x[1].C == "" {
				x = x[:1]
			}
			s, f := Sign(pt, x)
			want(t, toldPoint(pt)+": fault", f, none)
			want(t, toldPoint(pt)+": not above", s >= 0, true)
			wantSign(t, pt, append(x, api.Term{C: "-1", E: make([]int, k)}), -1)
		}
	}
	want(t, "points", good > 150, true)
}
