package line

import (
	"testing"

	"radicand/api"
	"radicand/real"
)

// And, Or, Not, Holds

type two func(a, b []api.Piece) ([]api.Piece, api.Fault)

func TestAndOr(t *testing.T) {
	for _, c := range []struct{ a, b, and, or string }{
		{"", "", "", ""}, {"", "(oo;oo)", "", "(oo;oo)"}, {"(oo;oo)", "(oo;oo)", "(oo;oo)", "(oo;oo)"}, {"[1;2]", "", "", "[1;2]"}, {"[1;2]", "(oo;oo)", "[1;2]", "(oo;oo)"},
		{"[1;2]", "[2;3]", "[2]", "[1;3]"}, {"[1;2)", "[2;3]", "", "[1;3]"}, {"[1;2]", "(2;3]", "", "[1;3]"}, {"[1;2)", "(2;3]", "", "[1;2), (2;3]"}, {"[1;2)", "[3;4]", "", "[1;2), [3;4]"},
		{"[1;3]", "[2;4]", "[2;3]", "[1;4]"}, {"[1;4]", "[2;3]", "[2;3]", "[1;4]"}, {"(1;4)", "[1;4]", "(1;4)", "[1;4]"}, {"(1;4]", "[1;4)", "(1;4)", "[1;4]"}, {"[1]", "[1]", "[1]", "[1]"},
		{"[1]", "(1;2)", "", "[1;2)"}, {"[2]", "(1;2)", "", "(1;2]"}, {"[2]", "(1;2), (2;3)", "", "(1;3)"}, {"[2]", "(oo;2), (2;oo)", "", "(oo;oo)"}, {"(oo;2]", "[2;oo)", "[2]", "(oo;oo)"},
		{"(oo;2)", "(2;oo)", "", "(oo;2), (2;oo)"}, {"(oo;2)", "[1;oo)", "[1;2)", "(oo;oo)"}, {"(oo;1)", "(2;oo)", "", "(oo;1), (2;oo)"}, {"(oo;1)", "(oo;2]", "(oo;1)", "(oo;2]"}, {"[1;oo)", "(2;oo)", "(2;oo)", "[1;oo)"},
		{"[1], [3], [5]", "[2], [4]", "", "[1], [2], [3], [4], [5]"}, {"[1;2], [3;4]", "[2;3]", "[2], [3]", "[1;4]"}, {"(1;2), (2;3), (3;4)", "[2], [3;5]", "(3;4)", "(1;5]"},
		{"[-2 0 1:0;-2 0 1:1]", "[1;2]", "[1;-2 0 1:1]", "[-2 0 1:0;2]"}, {"(-2 0 1:1;2)", "[1;-2 0 1:1)", "", "[1;-2 0 1:1), (-2 0 1:1;2)"},
		{"(oo;1 0 -10 0 1:3]", "[-2 0 1:1;oo)", "[-2 0 1:1;1 0 -10 0 1:3]", "(oo;oo)"},
	} {
		for _, order := range []string{c.a + " and " + c.b, c.b + " and " + c.a} {
			a, b := parse(c.a), parse(c.b)
			if order != c.a+" and "+c.b {
				a, b = b, a
			}
			l, f := And(a, b)
			wantSet(t, "And: "+order, l, f, parse(c.and))
			l, f = Or(a, b)
			wantSet(t, "Or: "+order, l, f, parse(c.or))
		}
	}
}

func TestNot(t *testing.T) {
	for _, c := range [][2]string{
		{"", "(oo;oo)"}, {"[1]", "(oo;1), (1;oo)"}, {"(1;2)", "(oo;1], [2;oo)"}, {"[1;2]", "(oo;1), (2;oo)"}, {"(1;2]", "(oo;1], (2;oo)"}, {"(oo;1)", "[1;oo)"}, {"(oo;1]", "(1;oo)"},
		{"[1;2), (2;3]", "(oo;1), [2], (3;oo)"}, {"(oo;1), [2], (3;oo)", "[1;2), (2;3]"}, {"(oo;-2 0 1:0], [-2 0 1:1;oo)", "(-2 0 1:0;-2 0 1:1)"}, {"[1], [2], [3]", "(oo;1), (1;2), (2;3), (3;oo)"},
	} {
		l, f := Not(parse(c[0]))
		wantSet(t, c[0], l, f, parse(c[1]))
		l, f = Not(parse(c[1]))
		wantSet(t, c[1], l, f, parse(c[0]))
	}
}

// Sets as places: each place on its own.
func TestSetsOfDraws(t *testing.T) {
	d, xs := draw{3}, places()
	n := len(xs)
	for i := range 600 {
		in, or := d.bools(n, 1+i%4), d.bools(n, 1+i%3)
		a, b := piecesOf(xs, in), piecesOf(xs, or)
		beforeA, beforeB := told(a), told(b)
		and, both, not := make([]bool, n), make([]bool, n), make([]bool, n)
		for j := range n {
			and[j], both[j], not[j] = in[j] && or[j], in[j] || or[j], !in[j]
		}
		l, f := And(a, b)
		wantSet(t, "And: "+beforeA+"and\n"+beforeB, l, f, piecesOf(xs, and))
		l, f = Or(a, b)
		wantSet(t, "Or: "+beforeA+"and\n"+beforeB, l, f, piecesOf(xs, both))
		l, f = Not(a)
		wantSet(t, "Not: "+beforeA, l, f, piecesOf(xs, not))
		l, f = Or(a, a)
		wantSet(t, "Or with itself: "+beforeA, l, f, a)
		j := d.below(n)
		is, f := Holds(a, xs[j])
		want(t, "fault", f, none)
		want(t, "Holds: "+beforeA+"at place "+whole(j).Text(), is, in[j])
		want(t, "a is only read", told(a), beforeA)
		want(t, "b is only read", told(b), beforeB)
	}
}

func TestHolds(t *testing.T) {
	xs := places()
	for i := range xs {
		for j := i; j < len(xs); j++ {
			l := []api.Piece{pieceOf(xs, i, j)}
			for k, x := range xs {
				is, f := Holds(l, x)
				want(t, "fault", f, none)
				want(t, told(l)+"at place "+whole(k).Text(), is, i <= k && k <= j)
			}
		}
	}
	for _, c := range []struct {
		l    string
		in   string
		k    int
		want bool
	}{
		{"", "0 1", 0, false}, {"(oo;oo)", "0 1", 0, true}, {"[1;2]", "-2 0 1", 1, true}, {"[1;2]", "-2 0 1", 0, false}, {"[1], [2]", "-2 1", 0, true}, {"[1], [2]", "-3 2", 0, false},
		{"(oo;1), (1;oo)", "-1 1", 0, false}, {"(oo;1), (1;oo)", "-1000 999", 0, true},
	} {
		is, f := Holds(parse(c.l), alg(c.in, c.k))
		want(t, "fault", f, none)
		want(t, c.l+" and "+c.in, is, c.want)
	}
}

// As many pieces as may be handed in may become more.
func TestManyPieces(t *testing.T) {
	l := points(1000)
	outside, f := Not(l)
	want(t, "fault", f, none)
	want(t, "around the points", len(outside), 1001)
	want(t, "too many now", Check(outside), fault(api.ErrMany, 0))
	want(t, "some of them", Check(outside[:1000]), none)
	all, f := Or(l, outside[:1000])
	wantSet(t, "up to the last", all, f, []api.Piece{{Low: true, To: real.Of(whole(999)), Most: true}})
	nothing, f := And(l, outside[:1000])
	wantSet(t, "not both", nothing, f, nil)
	var halves []api.Piece
	for i := range 1000 {
		f := []string{whole(-1 - 2*i).Text(), "2"}
		halves = append(halves, api.Piece{From: api.Alg{F: f}, To: api.Alg{F: f}, Least: true, Most: true})
	}
	both, f := Or(l, halves)
	want(t, "fault", f, none)
	want(t, "two thousand", len(both), 2000)
	want(t, "rising", Check(both[500:1500]), none)
	same, f := And(l, points(1000))
	wantSet(t, "the same", same, f, points(1000))
}
