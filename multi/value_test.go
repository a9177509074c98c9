package multi

import (
	"math"
	"strings"
	"testing"

	"radicand/api"
)

// P7.2: Eval

func TestEval(t *testing.T) {
	for _, c := range []struct{ l, at, value string }{
		{"", "7", "0"}, {"5/3 0", "7", "5/3"}, {"1 1 2, 1 2 0, 1 0 3", "2 1/2", "37/8"}, {"1 1, -7 0", "7", "0"}, {"1 40", "-1", "1"}, {"1 39", "-1", "-1"}, {"1 0", "0", "1"}, {"1 40, 3 0", "0", "3"}, {"1 1 1", "0 5", "0"},
		{"1 40", "2", "1099511627776"}, {"1 40", "-1/2", "1/1099511627776"}, {"1/2 1, 1/3 1, 1/6 1", "1/5", "1/5"}, {"1 1 0 0 0, 2 0 1 0 0, 3 0 0 1 0, 4 0 0 0 1", "1 10 100 1000", "4321"}, {"3/7 1 2 3 4", "1 1/2 2/3 3/2", "9/56"},
		{"2/3 1, 2/3 0", "1/2", "1"}, {"6 2, -5 1, 1 0", "1/3", "0"}, {"6 2, -5 1, 1 0", "1/2", "0"},
	} {
		at := strings.Fields(c.at)
		s, f := Eval(parse(c.l), len(at), at)
		want(t, c.l+" at "+c.at, f, none)
		want(t, c.l+" at "+c.at, s, c.value)
	}
}

func TestFaultsOfEval(t *testing.T) {
	long := strings.Repeat("1", 1001)
	good := parse("1 1 0, 1 0 1")
	for _, c := range []struct {
		at        []string
		code, at2 int
	}{
		{nil, api.ErrSize, 0}, {[]string{"1"}, api.ErrSize, 0}, {[]string{"1", "2", "3"}, api.ErrSize, 0}, {[]string{"x", "2", "3"}, api.ErrSize, 0},
		{[]string{"x", "2"}, api.ErrText, 0}, {[]string{"1", "2x"}, api.ErrText, 1}, {[]string{"1", ""}, api.ErrText, 1}, {[]string{"2/4", "x"}, api.ErrForm, 0}, {[]string{"x", "2/4"}, api.ErrText, 0}, {[]string{"1", "4/2"}, api.ErrForm, 1},
		{[]string{long, "1"}, api.ErrLong, 0}, {[]string{"1", "1/" + long}, api.ErrLong, 1}, {[]string{"1", "2"}, 0, 0},
	} {
		for _, l := range [][]api.Term{good, nil} {
			s, f := Eval(l, 2, c.at)
			want(t, strings.Join(c.at, " "), f, fault(c.code, c.at2))
			want(t, "nothing", s == "", c.code != 0)
		}
		s, f := Eval(parse("1 1 0, 1 0 41"), 2, c.at)
		want(t, "Check's first", f, fault(api.ErrRange, 1))
		want(t, "nothing", s, "")
	}
	for _, n := range []int{0, 5, -1, math.MaxInt} {
		_, f := Eval(nil, n, nil)
		want(t, "of n", f, fault(api.ErrRange, 0))
	}
}

func TestEvalOfDraws(t *testing.T) {
	d := draw{8}
	for i := range 2000 {
		n := 1 + d.below(4)
		l := d.terms(n, d.below(12), []int{1, 3, 40}[d.below(3)], i%kinds)
		at := d.fracs(n, d.below(2))
		s, f := Eval(l, n, at)
		want(t, told(l), f, none)
		want(t, told(l)+" at "+strings.Join(at, " "), s, plainOf(l).value(at))
	}
}

func TestEvalOfMuch(t *testing.T) {
	d := draw{9}
	for n := 1; n <= 4; n++ {
		for kind := range kinds {
			l, at := d.terms(n, 400, 40, kind), d.fracs(n, kind)
			s, f := Eval(l, n, at)
			want(t, "much", f, none)
			want(t, "much", s, plainOf(l).value(at))
		}
	}
	l := parse("1 40 1, -1 0 40")
	at := []string{strings.Repeat("7", 1000), "-1/" + strings.Repeat("3", 1000)}
	s, f := Eval(l, 2, at)
	want(t, "long", f, none)
	want(t, "long", s, plainOf(l).value(at))
}

// P7.3: Fix

func TestFix(t *testing.T) {
	for _, c := range []struct {
		l  string
		n  int
		v  int
		at string
		is string
	}{
		{"1 1 1, 1 0 1", 2, 1, "2", "2 1 0, 2 0 0"}, {"1 1 1, 1 0 1", 2, 0, "2", "3 0 1"}, {"1 1 1, 1 0 1", 2, 0, "-1", ""}, {"1 1 1, 1 0 1", 2, 1, "0", ""}, {"1 1 1, 1 0 1, 5 1 0", 2, 1, "0", "5 1 0"}, {"", 3, 2, "1/2", ""}, {"1 0", 1, 0, "0", "1 0"},
		{"1 2, -5 1, 6 0", 1, 0, "2", ""}, {"1 2, -5 1, 6 0", 1, 0, "1/2", "15/4 0"}, {"1 0 0 0 3, 1 1 0 0 2", 4, 3, "-1/3", "1/9 1 0 0 0, -1/27 0 0 0 0"}, {"1 2 1, 1 1 2", 2, 0, "1/2", "1/2 0 2, 1/4 0 1"}, {"1 0 1, 1 1 0", 2, 1, "7", "1 1 0, 7 0 0"},
		{"1 40 40", 2, 1, "-2", "1099511627776 40 0"},
	} {
		l, f := Fix(parse(c.l), c.n, c.v, c.at, api.Lex)
		wantTerms(t, c.l+" at "+c.at, l, f, c.is)
	}
}

func TestFaultsOfFix(t *testing.T) {
	good := parse("1 1 0, 1 0 1")
	long := strings.Repeat("1", 1001)
	for _, c := range []struct {
		v    int
		at   string
		code int
	}{
		{0, "1", 0}, {1, "-1/2", 0}, {2, "1", api.ErrVar}, {-1, "1", api.ErrVar}, {3, "1", api.ErrVar}, {math.MinInt, "1", api.ErrVar}, {math.MaxInt, "1", api.ErrVar}, {2, "x", api.ErrVar}, {-1, "2/4", api.ErrVar},
		{0, "x", api.ErrText}, {1, "12x", api.ErrText}, {1, "", api.ErrText}, {1, "-0", api.ErrText}, {1, "1/0", api.ErrText}, {0, "2/4", api.ErrForm}, {0, long, api.ErrLong}, {1, "1/" + long, api.ErrLong},
	} {
		for _, order := range orders {
			for _, p := range [][]api.Term{good, nil} {
				l, f := Fix(p, 2, c.v, c.at, order)
				want(t, c.at, f, fault(c.code, 0))
				want(t, "nothing", len(l) == 0, c.code != 0 || p == nil)
			}
			_, f := Fix(parse("1 1 0, 1 0"), 2, c.v, c.at, order)
			want(t, "Check's first", f, fault(api.ErrSize, 1))
		}
		_, f := Fix(good, 2, c.v, c.at, 3)
		want(t, "of the order first", f, fault(api.ErrKind, 0))
	}
}

func TestFixOfDraws(t *testing.T) {
	d := draw{10}
	for i := range 2000 {
		n := 1 + d.below(4)
		l := d.terms(n, d.below(12), []int{1, 3, 40}[d.below(3)], i%kinds)
		v, at := d.below(n), d.frac(d.below(kinds))
		for _, order := range orders {
			got, f := Fix(l, n, v, at, order)
			wantTerms(t, told(l)+" at "+at, got, f, plainOf(l).fix(v, rat(at)).form(n, order))
		}
	}
	for n := 1; n <= 4; n++ {
		l, at := d.terms(n, 400, 40, 1), d.frac(2)
		got, f := Fix(l, n, n-1, at, api.Grevlex)
		wantTerms(t, "much", got, f, plainOf(l).fix(n-1, rat(at)).form(n, api.Grevlex))
	}
}

// Derive

func TestDerive(t *testing.T) {
	for _, c := range []struct {
		l    string
		n, v int
		is   string
	}{
		{"", 1, 0, ""}, {"5 0", 1, 0, ""}, {"1 40", 1, 0, "40 39"}, {"1/3 3, 1 1, 1 0", 1, 0, "1 2, 1 0"}, {"1 1 2, 1 2 0, 1 0 3", 2, 0, "2 1 0, 1 0 2"}, {"1 1 2, 1 2 0, 1 0 3", 2, 1, "2 1 1, 3 0 2"}, {"1 1 0 0 0", 4, 3, ""},
		{"1 0 1, 2 0 1, -3 0 1, 1 1 1", 2, 1, "1 1 0"}, {"1 0 0 0 40", 4, 3, "40 0 0 0 39"},
	} {
		l, f := Derive(parse(c.l), c.n, c.v, api.Lex)
		wantTerms(t, c.l, l, f, c.is)
	}
	for _, v := range []int{-1, 2, 3, 4, math.MinInt, math.MaxInt} {
		for _, p := range [][]api.Term{parse("1 1 1"), nil} {
			l, f := Derive(p, 2, v, api.Grlex)
			want(t, "no variable", f, fault(api.ErrVar, 0))
			want(t, "nothing", len(l), 0)
		}
		_, f := Derive(parse("1 1 1, x 0 0"), 2, v, api.Grlex)
		want(t, "Check's first", f, fault(api.ErrText, 1))
	}
}

func TestDeriveOfDraws(t *testing.T) {
	d := draw{11}
	for i := range 2000 {
		n := 1 + d.below(4)
		l, v := d.terms(n, d.below(12), []int{1, 3, 40}[d.below(3)], i%kinds), d.below(n)
		for _, order := range orders {
			got, f := Derive(l, n, v, order)
			wantTerms(t, told(l), got, f, plainOf(l).derive(v).form(n, order))
		}
	}
}
