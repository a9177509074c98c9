package projection

import (
	"slices"
	"strings"
	"testing"

	"radicand/num"
	"radicand/terms"
)

// (What layer chain answers goes through here: its tests hold this package against plain ways.)

// want is a failure, if what is told is not what is wanted.
func want[T comparable](t *testing.T, what string, got, wanted T) {
	t.Helper()
	if got != wanted {
		t.Fatalf("%s: got %v, want %v", what, got, wanted)
	}
}

func whole(n int) num.Frac { return num.Whole(num.Of(n)) }

// x is a number times variable 0 to the n.
func x(k, n int) terms.Poly { return terms.Single(whole(k), terms.Power{n}) }

// y is a number times variable 1 to the n.
func y(k, n int) terms.Poly { return terms.Single(whole(k), terms.Power{0, n}) }

func sum(ps ...terms.Poly) terms.Poly {
	return terms.Total(len(ps), func(i int) terms.Poly { return ps[i] })
}

func told(ps []terms.Poly) string {
	var l []string
	for _, p := range ps {
		s := ""
		for e, c := range p.Each {
			s += " " + c.Text() + string(rune('a'+e[0])) + string(rune('a'+e[1]))
		}
		l = append(l, s[1:])
	}
	return strings.Join(l, "; ")
}

func TestSet(t *testing.T) {
	half, _ := num.Over(num.Of(-1), num.Of(2))
	ps := []terms.Poly{{}, y(4, 1), x(1, 2), sum(y(3, 0), x(6, 2)).Scale(half), y(7, 0), y(-9, 1), sum(x(1, 2), x(-2, 1)), y(5, 3), x(1, 2)}
	set := Set(ps)
	want(t, "set", told(set), "2ca 1aa; 1ca; 1ca -2ba; 1ad; 1ab")
	want(t, "of itself", told(Set(set)), told(set))
	slices.Reverse(ps)
	want(t, "turned round", told(Set(ps)), told(set))
	want(t, "of none", len(Set(nil)), 0)
	want(t, "of numbers", len(Set([]terms.Poly{{}, y(7, 0)})), 0)
}

// Without the limits of what is handed in: y^12 + x y + 1 has a multiple root where its discriminant is 0.
func TestOf(t *testing.T) {
	set := Set([]terms.Poly{sum(y(1, 12), terms.Single(whole(1), terms.Power{1, 1}), y(1, 0))})
	was := told(set)
	// 12^12 - 11^11 x^12; the other numbers are 0, or a power of x.
	want(t, "of degree 12", told(Of(set, 1)), "285311670611ma -8916100448256aa; 1ka")
	want(t, "what it was", told(set), was)
	want(t, "of none", len(Of(nil, 1)), 0)
	var lines []terms.Poly
	for n := range 12 {
		lines = append(lines, sum(y(1, 1), x(-1, n)))
	}
	// Where lines x^m and x^n meet: x^m - x^n.
	ps := Of(Set(lines), 1)
	want(t, "of twelve", len(ps), 11*12/2)
	want(t, "the first", told(ps[:1]), "1la -1ka")
	want(t, "the last", told(ps[len(ps)-1:]), "1ba -1aa")
}
