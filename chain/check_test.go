package chain

import (
	"math"
	"slices"
	"strings"
	"testing"

	"radicand/api"
	"radicand/multi"
)

// The faults of Resultant and Psc

// wantRefused is a failure, if Psc or Resultant is not refused so, or tells more with it.
func wantRefused(t *testing.T, a, b []api.Term, n, v, j int, f api.Fault) {
	t.Helper()
	what := told(a) + " and " + told(b)
	l, got := Psc(a, b, n, v, j)
	want(t, what, got, f)
	want(t, what+": nothing", len(l), 0)
	if f.Code == api.ErrRange && multi.Check(a, n, api.Lex) == none && multi.Check(b, n, api.Lex) == none {
		return
	}
	l, got = Resultant(a, b, n, v)
	want(t, what, got, f)
	want(t, what+": nothing", len(l), 0)
}

func TestFaultsOfTwo(t *testing.T) {
	const y16, y17 = "1 1 0, 1 0 16", "1 1 0, 1 0 17"
	for _, c := range []struct {
		a, b     string
		n, v, j  int
		code, at int
	}{
		// What is no polynomial: of a ahead of b, and of both ahead of all else.
		{"", "", 0, 0, 0, api.ErrRange, 0}, {"", "", 5, 9, 0, api.ErrRange, 0}, {"", "", math.MinInt, 0, 0, api.ErrRange, 0}, {"1 1 1", "x 1 1", 0, 0, 0, api.ErrRange, 0},
		{"1 0 1, 2 1", "x 0 0", 2, 0, 0, api.ErrSize, 1}, {"1 0 1, 1 41 0", "x 0 0", 2, 9, 0, api.ErrRange, 1}, {"1 0 1, 1 0 0, 2/4 0 0", "1 1", 2, 9, 9, api.ErrForm, 2}, {"", "x 0 0", 2, 9, 9, api.ErrText, 0},
		{"1 0 1", "1 0 1, 1 0 1, 1 0", 2, 9, 9, api.ErrSize, 2}, {"1 0 1", "1 0 -1", 2, -1, 9, api.ErrRange, 0}, {"1 0 1", "2 0 0, x 0 1", 2, 9, 9, api.ErrText, 1},
		// No such variable.
		{circle, circle, 2, 2, 0, api.ErrVar, 0}, {circle, circle, 2, -1, 0, api.ErrVar, 0}, {circle, circle, 2, math.MaxInt, 9, api.ErrVar, 0}, {circle, circle, 2, math.MinInt, -1, api.ErrVar, 0},
		{"", "", 2, 2, 9, api.ErrVar, 0}, {y17, y17, 2, 2, 9, api.ErrVar, 0}, {"1 1", "1 1", 1, 1, 0, api.ErrVar, 0}, {"1 0 0 0 1", "1 0 0 0 1", 4, 4, 0, api.ErrVar, 0},
		// Nought, also as what terms come to.
		{"", circle, 2, 1, 0, api.ErrZero, 0}, {circle, "", 2, 1, 0, api.ErrZero, 0}, {"", "", 2, 0, 0, api.ErrZero, 0}, {"0 40 40", circle, 2, 1, 9, api.ErrZero, 0}, {y17, "1 0 40, -1 0 40", 2, 1, -1, api.ErrZero, 0},
		// Too high together, by the degrees in v that they have.
		{y17, "1 1 0", 2, 1, 0, api.ErrMany, 0}, {"1 1 0", y17, 2, 1, 0, api.ErrMany, 0}, {"1 0 9", "1 0 8, 1 1 0", 2, 1, -1, api.ErrMany, 0}, {y16, "1 0 1", 2, 1, 99, api.ErrMany, 0}, {"1 40 0", "1 0 0, 1 40 0", 2, 0, 0, api.ErrMany, 0},
		// Numbers outside of their range.
		{circle, circle, 2, 1, 3, api.ErrRange, 0}, {circle, circle, 2, 1, -1, api.ErrRange, 0}, {circle, "1 0 1", 2, 1, 2, api.ErrRange, 0}, {"1 0 1", circle, 2, 1, 2, api.ErrRange, 0}, {y16, "1 1 0", 2, 1, 1, api.ErrRange, 0},
		{circle, circle, 2, 1, math.MaxInt, api.ErrRange, 0}, {circle, circle, 2, 1, math.MinInt, api.ErrRange, 0}, {"1 0 2, -1 0 2, 1 0 1", circle, 2, 1, 2, api.ErrRange, 0},
	} {
		wantRefused(t, parse(c.a), parse(c.b), c.n, c.v, c.j, fault(c.code, c.at))
	}
	d := draw{11}
	many := d.terms(2, 401, 3, 1, 3, true)
	wantRefused(t, many, nil, 2, 1, 0, fault(api.ErrMany, 0))
	wantRefused(t, nil, many, 2, 9, 0, fault(api.ErrMany, 0))
	wantRefused(t, []api.Term{{C: strings.Repeat("1", 1001), E: []int{0}}}, many, 1, 0, 0, fault(api.ErrLong, 0))
}

// As high together as may be, by what they come to.
func TestAsHighAsMayBe(t *testing.T) {
	for _, c := range []struct {
		a, b string
		v, j int
		m    string
	}{
		{"1 0 16, 1 1 0", "1 1 0", 1, 0, "1 16 0"}, {"1 1 0", "1 0 16, 1 1 0", 1, 0, "1 16 0"}, {"1 0 15, 1 1 0", "1 0 1, 1 1 0", 1, 0, "1 15 0, -1 1 0"},
		{"1 0 8, 1 1 0", "1 0 8, -1 1 0", 1, 0, "256 8 0"}, {"1 0 8, 1 1 0", "1 0 8, -1 1 0", 1, 8, "1 0 0"}, {"1 0 8, 1 1 0", "1 0 8, -1 1 0", 1, 7, ""},
		{"1 0 40, 1 0 2, -1 0 40", "1 0 14, -1 0 40, 1 1 0, 1 0 40", 1, 2, "1 0 0"}, {"1 40 0", "1 40 0, 1 40 1", 1, 0, "1 40 0"},
	} {
		l, f := Psc(parse(c.a), parse(c.b), 2, c.v, c.j)
		wantTerms(t, c.a+" and "+c.b, l, f, c.m)
	}
}

// The faults of Project

func wantNoProjection(t *testing.T, ps [][]api.Term, n, v int, f api.Fault) {
	t.Helper()
	ls, got := Project(ps, n, v)
	want(t, toldAll(ps), got, f)
	want(t, toldAll(ps)+": nothing", len(ls), 0)
}

func TestFaultsOfProject(t *testing.T) {
	nine := slices.Repeat([][]api.Term{parse(circle)}, 9)
	wantNoProjection(t, nine, 2, 1, fault(api.ErrMany, 0))
	wantNoProjection(t, nine, 0, 9, fault(api.ErrMany, 0))
	wantNoProjection(t, make([][]api.Term, 9), 5, 9, fault(api.ErrMany, 0))
	nine[8] = parse("x 1")
	wantNoProjection(t, nine, 2, 1, fault(api.ErrMany, 0))
	for _, c := range []struct {
		ps       string
		n, v     int
		code, at int
	}{
		// Of no terms.
		{"", 0, 0, api.ErrRange, 0}, {"", 5, 0, api.ErrRange, 0}, {"", -1, -1, api.ErrRange, 0}, {"", math.MaxInt, 0, api.ErrRange, 0}, {circle, 0, 0, api.ErrRange, 0}, {"1; x", 5, 9, api.ErrRange, 0},
		// Of each, At its term, ahead of the variable and of the degrees.
		{circle + "; 1 0 1, 1 0 1, x 0 1", 2, 9, api.ErrText, 2}, {"1 0 9; 1 0 0, 1 0", 2, 1, api.ErrSize, 1}, {"1 1 0, 1 41 0; x 0 0", 2, 1, api.ErrRange, 1}, {"; 2/4 0 0", 2, 1, api.ErrForm, 0}, {"; ; 1 0 0, 1 0 -1", 2, -1, api.ErrRange, 1},
		// No such variable, ahead of the degrees.
		{"", 2, 2, api.ErrVar, 0}, {"", 1, -1, api.ErrVar, 0}, {circle, 2, math.MinInt, api.ErrVar, 0}, {circle + "; 1 0 9", 2, 2, api.ErrVar, 0}, {"", 4, 4, api.ErrVar, 0},
		// Degrees above 8, At the first of them.
		{"1 0 9", 2, 1, api.ErrMany, 0}, {"1 9 0; 1 0 8; 1 0 9; 1 0 10", 2, 1, api.ErrMany, 2}, {"1 0 9; 1 9 0", 2, 0, api.ErrMany, 1}, {"; 1 0 0; 3 0 40, 1 0 0", 2, 1, api.ErrMany, 2},
	} {
		wantNoProjection(t, parseAll(c.ps), c.n, c.v, fault(c.code, c.at))
	}
	d := draw{12}
	wantNoProjection(t, [][]api.Term{nil, d.terms(2, 401, 3, 1, 3, true)}, 2, 1, fault(api.ErrMany, 0))
	wantNoProjection(t, [][]api.Term{nil, d.terms(2, 401, 3, 1, 3, true), parse("x")}, 2, 1, fault(api.ErrMany, 0))
}

// Eight polynomials of degree 8, by what they come to, may be projected.
func TestProjectOfAsManyAsMayBe(t *testing.T) {
	eight := parseAll("1 0 8, 1 1 0; 1 0 8, 2 1 0; 1 0 8, 3 1 0; 1 0 8, 4 1 0; 1 0 40, 1 1 0, -1 0 40; ; 3 0 0; 1 0 9, 1 0 8, 1 1 0, -1 0 9")
	ls, f := Project(eight, 2, 1)
	want(t, "fault", f, none)
	// The resultants are powers of x, and what is left where y is 0.
	want(t, "told", toldAll(ls), "1 8 0; 1 7 0; 1 1 0")
}
