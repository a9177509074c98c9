package multi

import (
	"slices"
	"strings"
	"testing"

	"radicand/api"
)

// the order of terms, and the form (P7.1: Check takes what Form tells)

func TestForm(t *testing.T) {
	for _, c := range []struct {
		l, lex, grlex, grevlex string
		n                      int
	}{
		{"", "", "", "", 1}, {"0 3", "", "", "", 1}, {"1 3, -1 3", "", "", "", 1}, {"5 0", "5 0", "5 0", "5 0", 1},
		{"1 0, 2 3, 1/2 1", "2 3, 1/2 1, 1 0", "2 3, 1/2 1, 1 0", "2 3, 1/2 1, 1 0", 1},
		{"1 1 2, 1 2 0, 1 0 3", "1 2 0, 1 1 2, 1 0 3", "1 1 2, 1 0 3, 1 2 0", "1 1 2, 1 0 3, 1 2 0", 2},
		{"1 0 2 0, 1 1 0 1", "1 1 0 1, 1 0 2 0", "1 1 0 1, 1 0 2 0", "1 0 2 0, 1 1 0 1", 3},
		{"1 0 0 0 1, 1 0 0 1 0, 1 0 1 0 0, 1 1 0 0 0, 7 0 0 0 0", "1 1 0 0 0, 1 0 1 0 0, 1 0 0 1 0, 1 0 0 0 1, 7 0 0 0 0", "1 1 0 0 0, 1 0 1 0 0, 1 0 0 1 0, 1 0 0 0 1, 7 0 0 0 0", "1 1 0 0 0, 1 0 1 0 0, 1 0 0 1 0, 1 0 0 0 1, 7 0 0 0 0", 4},
		{"1 0 1 1 0, 1 1 0 0 1", "1 1 0 0 1, 1 0 1 1 0", "1 1 0 0 1, 1 0 1 1 0", "1 0 1 1 0, 1 1 0 0 1", 4},
		{"1 1 0 2 0, 1 0 2 1 0, 1 2 0 0 0", "1 2 0 0 0, 1 1 0 2 0, 1 0 2 1 0", "1 1 0 2 0, 1 0 2 1 0, 1 2 0 0 0", "1 0 2 1 0, 1 1 0 2 0, 1 2 0 0 0", 4},
		{"1/2 1 1, 1 2 0, 1/3 1 1, -1 2 0, 1/6 1 1", "1 1 1", "1 1 1", "1 1 1", 2}, {"1/2 1 1, -1/2 1 1, 1/3 0 1", "1/3 0 1", "1/3 0 1", "1/3 0 1", 2},
		{"9223372036854775807 40 0, 1 40 0", "9223372036854775808 40 0", "9223372036854775808 40 0", "9223372036854775808 40 0", 2},
	} {
		for order, wanted := range []string{c.lex, c.grlex, c.grevlex} {
			l, f := Form(parse(c.l), c.n, order)
			wantTerms(t, c.l, l, f, wanted)
		}
	}
}

// All pairs of powers with small exponents.
func TestOrderOfAllPairs(t *testing.T) {
	for n := 1; n <= api.MaxVars; n++ {
		all := powersBelow(n, []int{0, 12, 6, 4, 3}[n])
		for _, a := range all {
			for _, b := range all {
				l := []api.Term{{C: "1", E: a}, {C: "2", E: b}}
				for _, order := range orders {
					got, f := Form(l, n, order)
					wantTerms(t, told(l), got, f, plainOf(l).form(n, order))
				}
			}
		}
	}
}

func powersBelow(n, base int) [][]int {
	if n == 0 {
		return [][]int{nil}
	}
	var all [][]int
	for _, e := range powersBelow(n-1, base) {
		for i := range base {
			all = append(all, append(slices.Clone(e), i))
		}
	}
	return all
}

func TestFormOfDraws(t *testing.T) {
	d := draw{3}
	for i := range 3000 {
		n := 1 + d.below(4)
		l := d.terms(n, d.below(12), []int{1, 3, 40}[d.below(3)], i%kinds)
		for _, order := range orders {
			wanted := plainOf(l).form(n, order)
			got, f := Form(l, n, order)
			again, g := Form(got, n, order)
			want(t, "of the form", told(again), told(got))
			want(t, "of the form", g, none)
			wantTerms(t, told(l), got, f, wanted)
			mixed := copied(l)
			for j := range mixed {
				k := j + d.below(len(mixed)-j)
				mixed[j], mixed[k] = mixed[k], mixed[j]
			}
			got, f = Form(mixed, n, order)
			wantTerms(t, "mixed: "+told(l), got, f, wanted)
		}
	}
}

func TestFormOfMany(t *testing.T) {
	d := draw{4}
	for i := range 12 {
		n := 1 + i%4
		l := d.terms(n, 400, []int{40, 5, 2, 40}[i%4], i%kinds)
		for _, order := range orders {
			got, f := Form(l, n, order)
			wantTerms(t, "many", got, f, plainOf(l).form(n, order))
		}
	}
	// One power 400 times, with sums that grow.
	l := make([]api.Term, 400)
	for i := range l {
		l[i] = api.Term{C: strings.Repeat("9", 1000), E: []int{40, 0}}
	}
	got, f := Form(l, 2, api.Lex)
	wantTerms(t, "grown", got, f, plainOf(l).form(2, api.Lex))
}

// What is handed in is only read.
func TestOnlyRead(t *testing.T) {
	d := draw{5}
	for i := range 200 {
		a, b := d.terms(3, 8, 3, i%kinds), d.terms(3, 8, 3, i%kinds)
		c, e, at := copied(a), copied(b), d.fracs(3, i%kinds)
		texts := slices.Clone(at)
		var all [][]api.Term
		for _, order := range orders {
			for _, l := range [][]api.Term{first(Form(a, 3, order)), first(Add(a, b, 3, order)), first(Mul(a, b, 3, order)), first(Fix(a, 3, 1, at[1], order)), first(Derive(a, 3, 1, order)), first(Add(a, nil, 3, order)), first(Add(nil, b, 3, order))} {
				all = append(all, l)
			}
		}
		Eval(a, 3, at)
		for _, l := range all {
			wantAlone(t, "answers", l)
		}
		want(t, "a", told(a), told(c))
		want(t, "b", told(b), told(e))
		want(t, "at", strings.Join(at, " "), strings.Join(texts, " "))
	}
}

func first(l []api.Term, _ api.Fault) []api.Term { return l }
