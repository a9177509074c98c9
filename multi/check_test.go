package multi

import (
	"math"
	"slices"
	"strings"
	"testing"

	"radicand/api"
	"radicand/num"
)

// P7.1, and that each call tells this fault first

func TestCheck(t *testing.T) {
	long, most := strings.Repeat("9", 1001), strings.Repeat("9", 1000)
	for _, c := range []struct {
		l              string
		n, order       int
		code, at       int
		alsoOtherOrder bool
	}{
		{"", 1, api.Lex, 0, 0, true}, {"0 0", 1, api.Lex, 0, 0, true}, {"1 0 40 0 40", 4, api.Lex, 0, 0, true}, {"1 1, 1 1, -1 1", 1, api.Lex, 0, 0, true},
		{"", 0, api.Lex, api.ErrRange, 0, true}, {"", -1, api.Lex, api.ErrRange, 0, true}, {"", 5, api.Lex, api.ErrRange, 0, true}, {"", math.MinInt, api.Lex, api.ErrRange, 0, true}, {"", math.MaxInt, api.Lex, api.ErrRange, 0, true},
		{"1 0 0 0 0 0", 5, api.Lex, api.ErrRange, 0, true}, {"1", 0, api.Lex, api.ErrRange, 0, true}, {"", 0, 3, api.ErrRange, 0, false},
		{"", 1, 3, api.ErrKind, 0, false}, {"", 1, -1, api.ErrKind, 0, false}, {"", 4, math.MaxInt, api.ErrKind, 0, false}, {"", 4, math.MinInt, api.ErrKind, 0, false}, {"1", 1, 3, api.ErrKind, 0, false},
		{"1", 1, api.Lex, api.ErrSize, 0, true}, {"1 1 1", 1, api.Lex, api.ErrSize, 0, true}, {"1 1, 1 2, 1 1 1, 1", 1, api.Lex, api.ErrSize, 2, true}, {"1 1 1 1", 4, api.Lex, api.ErrSize, 0, true}, {"1 0 0 0 0 0", 4, api.Lex, api.ErrSize, 0, true},
		{"1 41", 1, api.Lex, api.ErrRange, 0, true}, {"1 -1", 1, api.Lex, api.ErrRange, 0, true}, {"1 40 0, 1 0 41", 2, api.Lex, api.ErrRange, 1, true}, {"1 0 0 0 -1", 4, api.Lex, api.ErrRange, 0, true},
		{"1 9223372036854775807", 1, api.Lex, api.ErrRange, 0, true}, {"1 -9223372036854775808", 1, api.Lex, api.ErrRange, 0, true}, {"0 41", 1, api.Lex, api.ErrRange, 0, true},
		{"x 1", 1, api.Lex, api.ErrText, 0, true}, {"1 0, 12x 1", 1, api.Lex, api.ErrText, 1, true}, {"2/4 1", 1, api.Lex, api.ErrForm, 0, true}, {"3/1 1", 1, api.Lex, api.ErrForm, 0, true}, {"1 1, 1 1, 0/5 1", 1, api.Lex, api.ErrForm, 2, true}, {"-0 1", 1, api.Lex, api.ErrText, 0, true}, {"+1 1", 1, api.Lex, api.ErrText, 0, true}, {"1/0 1", 1, api.Lex, api.ErrText, 0, true},
		{long + " 1", 1, api.Lex, api.ErrLong, 0, true}, {"1/" + long + " 1", 1, api.Lex, api.ErrLong, 0, true}, {most + " 1, -" + most + " 1", 1, api.Lex, 0, 0, true}, {"1/" + most + " 1", 1, api.Lex, 0, 0, true},
		// Of one term the first fault is told; of two the one of the first.
		{"x 41 1", 1, api.Lex, api.ErrSize, 0, true}, {"x 41", 1, api.Lex, api.ErrRange, 0, true}, {"2/4 -1", 1, api.Lex, api.ErrRange, 0, true}, {"x 1, 1 41, 1", 1, api.Lex, api.ErrText, 0, true}, {"1 41, x 1, 1", 1, api.Lex, api.ErrRange, 0, true},
	} {
		l := parse(c.l)
		want(t, c.l, Check(l, c.n, c.order), fault(c.code, c.at))
		if c.alsoOtherOrder {
			want(t, c.l, Check(l, c.n, api.Grlex), fault(c.code, c.at))
			want(t, c.l, Check(l, c.n, api.Grevlex), fault(c.code, c.at))
		}
		wantInAllCalls(t, c.l, l, c.n, c.order)
	}
	want(t, "no text", Check([]api.Term{{E: []int{1}}}, 1, api.Lex), fault(api.ErrText, 0))
	want(t, "an empty term", Check([]api.Term{{}}, 1, api.Lex), fault(api.ErrSize, 0))
	want(t, "an empty list", Check([]api.Term{}, 1, api.Lex), none)
}

func TestCheckOfMany(t *testing.T) {
	d := draw{1}
	l := d.terms(2, 401, 3, 1)
	want(t, "as many as may be", Check(l[:400], 2, api.Grlex), none)
	want(t, "one more", Check(l, 2, api.Grlex), fault(api.ErrMany, 0))
	want(t, "of n first", Check(l, 5, api.Grlex), fault(api.ErrRange, 0))
	want(t, "of the order first", Check(l, 2, 3), fault(api.ErrKind, 0))
	l[0].E, l[1].C = nil, "x"
	want(t, "ahead of the terms", Check(l, 2, api.Grlex), fault(api.ErrMany, 0))
	l[0].E = []int{0, 0}
	want(t, "the terms", Check(l[:400], 2, api.Grlex), fault(api.ErrText, 1))
	l[1].C, l[399].C = "1", "2/4"
	want(t, "the last", Check(l[:400], 2, api.Grlex), fault(api.ErrForm, 399))
	wantInAllCalls(t, "many", l, 2, api.Lex)
	wantInAllCalls(t, "the last", l[:400], 2, api.Lex)
}

// wantInAllCalls is a failure, if a call does not tell Check's fault of l, or tells more with it.
func wantInAllCalls(t *testing.T, what string, l []api.Term, n, order int) {
	t.Helper()
	f := Check(l, n, order)
	if f == none {
		return
	}
	nothing := func(call string, l []api.Term, got api.Fault) {
		t.Helper()
		want(t, call+": "+what, got, f)
		want(t, call+": "+what+": nothing", len(l), 0)
	}
	m, g := Form(l, n, order)
	nothing("Form", m, g)
	for name, call := range map[string]func(a, b []api.Term, n, order int) ([]api.Term, api.Fault){"Add": Add, "Mul": Mul} {
		m, g = call(l, nil, n, order)
		nothing(name, m, g)
		m, g = call(nil, l, n, order)
		nothing(name+" behind", m, g)
		m, g = call(l, []api.Term{{}}, n, order)
		nothing(name+" ahead of a wrong one", m, g)
	}
	m, g = Fix(l, n, -1, "x", order)
	nothing("Fix", m, g)
	m, g = Derive(l, n, -1, order)
	nothing("Derive", m, g)
	if order == api.Lex {
		s, g := Eval(l, n, []string{"x"})
		want(t, "Eval: "+what, g, f)
		want(t, "Eval: "+what+": nothing", s, "")
	}
}

// The first of two polynomials tells its fault first.
func TestFaultsOfTwo(t *testing.T) {
	good, size, form := parse("1 1"), parse("1 1, 1 1 1"), parse("1 1, 1 2, 2/4 1")
	for _, call := range []func(a, b []api.Term, n, order int) ([]api.Term, api.Fault){Add, Mul} {
		for _, c := range []struct {
			a, b   []api.Term
			wanted api.Fault
		}{
			{size, form, fault(api.ErrSize, 1)}, {form, size, fault(api.ErrForm, 2)}, {good, form, fault(api.ErrForm, 2)}, {size, good, fault(api.ErrSize, 1)}, {good, good, none}, {nil, size, fault(api.ErrSize, 1)},
		} {
			_, f := call(c.a, c.b, 1, api.Grevlex)
			want(t, told(c.a)+" and "+told(c.b), f, c.wanted)
		}
	}
}

// plainFault is Check's fault in the chapter's words.
func plainFault(l []api.Term, n, order int) api.Fault {
	if n < 1 || n > 4 {
		return fault(api.ErrRange, 0)
	}
	if !slices.Contains(orders, order) {
		return fault(api.ErrKind, 0)
	}
	if len(l) > 400 {
		return fault(api.ErrMany, 0)
	}
	for i, t := range l {
		if len(t.E) != n {
			return fault(api.ErrSize, i)
		}
		if slices.ContainsFunc(t.E, func(e int) bool { return e < 0 || e > 40 }) {
			return fault(api.ErrRange, i)
		}
		if _, f := num.ParseFrac(t.C); f.Code != 0 {
			return fault(f.Code, i)
		}
	}
	return none
}

func TestCheckOfDraws(t *testing.T) {
	d := draw{2}
	texts := []string{"1", "-7/3", "0", "", "-", "1/", "2/4", "007", "1/1", "\x00", "é", "12 "}
	exponents := []int{0, 1, 2, 39, 40, 41, -1, math.MaxInt, math.MinInt}
	for range 20000 {
		n := d.below(7) - 1
		// Much of what is drawn has no fault, or its first one late.
		well := d.below(4)
		l := make([]api.Term, d.below(5))
		for i := range l {
			size := n
			if d.below(12) == 0 && well > 0 {
				size = d.below(6)
			}
			l[i] = api.Term{C: texts[d.below(3)], E: make([]int, max(0, size))}
			if d.below(8) == 0 && well > 1 {
				l[i].C = texts[d.below(len(texts))]
			}
			for v := range l[i].E {
				l[i].E[v] = exponents[d.below(5)]
				if d.below(12) == 0 && well > 2 {
					l[i].E[v] = exponents[d.below(len(exponents))]
				}
			}
		}
		order := d.below(3)
		if d.below(20) == 0 {
			order = d.below(7) - 3
		}
		want(t, told(l), Check(l, n, order), plainFault(l, n, order))
		wantInAllCalls(t, told(l), l, n, order)
	}
}
