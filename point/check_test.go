package point

import (
	"slices"
	"strings"
	"testing"

	"radicand/api"
)

func digits(n int) string { return strings.Repeat("9", n) }

// P9.1.
func TestOf(t *testing.T) {
	for _, c := range []struct{ xs, wanted string }{
		{"1/2", "0: 1 1, -1/2 0"}, {"0", "0: 1 1"}, {"-7", "0: 1 1, 7 0"},
		{"1 0 -2/3 5", "0: 1 1, -1 0; 0: 1 0 1; 0: 1 0 0 1, 2/3 0 0 0; 0: 1 0 0 0 1, -5 0 0 0 0"},
		{digits(1000) + "/2", "0: 1 1, -" + digits(1000) + "/2 0"},
	} {
		xs := strings.Fields(c.xs)
		pt, f := Of(xs)
		want(t, c.xs, f, none)
		want(t, c.xs, toldPoint(pt), c.wanted)
		want(t, c.xs+": is a point", Check(pt), none)
		want(t, "what is handed in", strings.Join(xs, " "), c.xs)
		for i, x := range xs {
			// The coordinate less the fraction is 0.
			p := []api.Term{{C: "1", E: make([]int, len(xs))}}
			p[0].E[i] = 1
			if x != "0" {
				p = append(p, api.Term{C: strings.TrimPrefix("-"+x, "--"), E: make([]int, len(xs))})
			}
			wantSign(t, pt, p, 0)
		}
	}
}

func TestOfFaults(t *testing.T) {
	for _, c := range []struct {
		xs     []string
		wanted api.Fault
	}{
		{nil, fault(api.ErrSize, 0)}, {[]string{}, fault(api.ErrSize, 0)}, {[]string{"1", "2", "3", "4", "5"}, fault(api.ErrSize, 0)},
		{[]string{"1", "2", "3", "4", "x"}, fault(api.ErrText, 4)}, {[]string{"1", "2", "3", "4", "5", "6", "2/4"}, fault(api.ErrForm, 6)},
		{[]string{"x"}, fault(api.ErrText, 0)}, {[]string{""}, fault(api.ErrText, 0)}, {[]string{"0", "-0"}, fault(api.ErrText, 1)},
		{[]string{"0", "2/4", "x"}, fault(api.ErrForm, 1)}, {[]string{"0", digits(1001), "2/4"}, fault(api.ErrLong, 1)}, {[]string{"1", "1/1"}, fault(api.ErrForm, 1)},
	} {
		pt, f := Of(c.xs)
		want(t, strings.Join(c.xs, " "), f, c.wanted)
		want(t, "nothing", len(pt), 0)
	}
}

// No two lists of an answer share memory.
func TestOfIsNew(t *testing.T) {
	pt, _ := Of([]string{"1", "0", "2/3", "7"})
	var all [][]int
	for _, x := range pt {
		for i := range x.P[:cap(x.P)] {
			x.P[:cap(x.P)][i].C = ""
		}
		for _, m := range x.P {
			all = append(all, m.E[:cap(m.E)])
		}
	}
	for i, e := range all {
		for j := range e {
			e[j] = i
		}
	}
	for i, e := range all {
		for _, n := range e {
			want(t, "shared", n, i)
		}
	}
	again, _ := Of([]string{"1", "0", "2/3", "7"})
	want(t, "again", toldPoint(again), "0: 1 1, -1 0; 0: 1 0 1; 0: 1 0 0 1, -2/3 0 0 0; 0: 1 0 0 0 1, -7 0 0 0 0")
}

// points are points, and what is none, with the faults.
func points() []struct {
	text   string
	wanted api.Fault
} {
	const two = "1: 1 2, -2 0"
	return []struct {
		text   string
		wanted api.Fault
	}{
		{two, none}, {"0: 1 2, -2 0", none}, {"2: 1 2, -2 0", fault(api.ErrRange, 0)}, {"-1: 1 2, -2 0", fault(api.ErrRange, 0)},
		// The terms stand in any order, and more than once.
		{"1: -1 0, 1/2 2, -1 0, 1 1, 1/2 2, -1 1, 0 7", none}, {"2: -1 0, 1/2 2, -1 0, 1/2 2", fault(api.ErrRange, 0)},
		// Each root counts once.
		{"0: 1 2, -2 1, 1 0", none}, {"1: 1 2, -2 1, 1 0", fault(api.ErrRange, 0)}, {"2: 1 5, -1 3", none}, {"3: 1 5, -1 3", fault(api.ErrRange, 0)},
		{"0: 1 40", none}, {"1: 1 40", fault(api.ErrRange, 0)}, {"1: 1 40, -3 0", none}, {"2: 1 40, -3 0", fault(api.ErrRange, 0)},
		// No roots, and nothing that is left.
		{"0: 1 2, 1 0", fault(api.ErrRange, 0)}, {"0: 5 0", fault(api.ErrRange, 0)}, {"0: ", fault(api.ErrZero, 0)}, {"0: 0 3", fault(api.ErrZero, 0)}, {"0: 1 1, -1 1", fault(api.ErrZero, 0)},
		{two + "; 0: 1 2 1, -2 0 1", fault(api.ErrZero, 1)}, {two + "; 0: 1 2 1, -2 0 1, 1 4 0, -4 0 0", fault(api.ErrZero, 1)}, {two + "; 0: 1 2 1, -2 0 1, 1 0 0", fault(api.ErrRange, 1)},
		{two + "; 0: 1 2 1, -3 0 1", none}, {two + "; 1: 1 2 1, -3 0 1", fault(api.ErrRange, 1)}, {"0: 1 1; 0: 1 1 1, 3 2 0", fault(api.ErrZero, 1)},
		// The highest coefficient is 0 there, also after others.
		{two + "; 0: 1 2 7, -2 0 7, 1 0 1, -1 1 0", none}, {two + "; 1: 1 2 7, -2 0 7, 1 0 1, -1 1 0", fault(api.ErrRange, 1)},
		{two + "; 1: 1 2 7, -2 0 7, 1 4 6, -4 0 6, 1 0 2, -1 1 0", none}, {two + "; 2: 1 2 7, -2 0 7, 1 4 6, -4 0 6, 1 0 2, -1 1 0", fault(api.ErrRange, 1)},
		// A square only there: y^2 - 2 x y + 2; and none: y^2 - 2 x y + 1.
		{two + "; 0: 1 0 2, -2 1 1, 2 0 0", none}, {two + "; 1: 1 0 2, -2 1 1, 2 0 0", fault(api.ErrRange, 1)}, {two + "; 1: 1 0 2, -2 1 1, 1 0 0", none},
		{two + "; 2: 1 0 2, -2 1 1, 1 0 0", fault(api.ErrRange, 1)}, {two + "; 0: 1 0 2, -2 1 1, 3 0 0", fault(api.ErrRange, 1)},
		// Roots on roots.
		{two + "; 1: 1 0 2, -1 1 0", none}, {two + "; 2: 1 0 2, -1 1 0", fault(api.ErrRange, 1)}, {"0: 1 2, -2 0; 0: 1 0 2, -1 1 0", fault(api.ErrRange, 1)},
		{two + "; 1: 1 0 2, -1 1 0; 1: 1 0 0 2, -1 0 1 0", none}, {two + "; 0: 1 0 2, -1 1 0; 0: 1 0 0 2, -1 0 1 0", fault(api.ErrRange, 2)},
		{two + "; 1: 1 0 2, -1 1 0; 1: 1 0 0 2, -1 0 1 0; 1: 1 0 0 0 2, -1 0 0 1 0", none}, {two + "; 1: 1 0 2, -1 1 0; 1: 1 0 0 2, -1 0 1 0; 0: 1 0 0 0 2, 1 0 0 1 0", fault(api.ErrRange, 3)},
		// What multi.Check tells, and what stands ahead of it.
		{"0: 1 2 0", fault(api.ErrSize, 0)}, {"0: x 2", fault(api.ErrText, 0)}, {"0: 1 41", fault(api.ErrRange, 0)}, {"0: 1 -1", fault(api.ErrRange, 0)}, {"0: 2/4 1", fault(api.ErrForm, 0)},
		{"0: " + digits(1001) + " 1", fault(api.ErrLong, 0)}, {two + "; 0: 1 2", fault(api.ErrSize, 1)}, {two + "; 0: 1 0 1, 01 0 0", fault(api.ErrText, 1)},
		{"7: 1 2, -2 0; 0: 1 2", fault(api.ErrRange, 0)}, {"0: ; 0: x 1 1", fault(api.ErrZero, 0)}, {two + "; 0: 1 0 0; 0: 2/4 0 0 0", fault(api.ErrRange, 1)},
		{"0: " + strings.TrimSuffix(strings.Repeat("1 1,", 400), ","), none}, {"0: " + strings.TrimSuffix(strings.Repeat("1 1,", 401), ","), fault(api.ErrMany, 0)},
	}
}

// P9.2; and it is the first fault of Sign and Count, and, behind its own, of Near: P9.3 to P9.5.
func TestCheck(t *testing.T) {
	p, q := []api.Term{{C: "x"}}, make([]api.Term, 401)
	for _, c := range points() {
		pt := parsePoint(c.text)
		want(t, c.text, Check(pt), c.wanted)
		want(t, "what is handed in: "+c.text, toldPoint(pt), toldPoint(parsePoint(c.text)))
		if c.wanted == none {
			continue
		}
		for _, bad := range [][]api.Term{nil, p, q} {
			s, f := Sign(pt, bad)
			want(t, "Sign: "+c.text, f, c.wanted)
			want(t, "Sign", s, 0)
			n, f := Count(pt, bad)
			want(t, "Count: "+c.text, f, c.wanted)
			want(t, "Count", n, 0)
		}
		l, f := Near(pt, 3)
		want(t, "Near: "+c.text, f, c.wanted)
		want(t, "Near", len(l), 0)
	}
}

func TestSizes(t *testing.T) {
	one := func(i int) api.Root {
		e := make([]int, i+1)
		e[i] = 1
		return api.Root{P: []api.Term{{C: "1", E: e}}}
	}
	var pt []api.Root
	for n := range 7 {
		wanted := none
		if n < 1 || n > api.MaxVars {
			wanted = fault(api.ErrSize, 0)
		}
		want(t, "Check", Check(pt), wanted)
		_, f := Sign(pt, nil)
		want(t, "Sign", f, wanted)
		_, f = Near(pt, 0)
		want(t, "Near", f, wanted)
		_, f = Count(pt, nil)
		if wanted == none {
			wanted = fault(api.ErrZero, 0)
		}
		if n == api.MaxVars {
			wanted = fault(api.ErrRange, 0)
		}
		want(t, "Count", f, wanted)
		pt = append(pt, one(n))
	}
	// The size comes ahead of what is wrong in a coordinate.
	want(t, "too many", Check([]api.Root{{}, {}, {}, {}, {}}), fault(api.ErrSize, 0))
}

// P9.3 and P9.4: faults of what is asked for.
func TestFaultsOfPolynomials(t *testing.T) {
	pt := parsePoint("1: 1 2, -2 0; 0: 1 0 2, -1 1 0")
	many := slices.Repeat([]api.Term{{C: "1", E: []int{0, 0}}}, 401)
	for _, c := range []struct {
		p      []api.Term
		wanted api.Fault
	}{
		{parse("1 1 1, x 1 1"), fault(api.ErrText, 1)}, {parse("1 1"), fault(api.ErrSize, 0)}, {parse("1 1 1, 1 0 0 0"), fault(api.ErrSize, 1)}, {parse("1 1 1, 1 0 41"), fault(api.ErrRange, 1)},
		{parse("1 1 -1"), fault(api.ErrRange, 0)}, {parse("1/1 1 1"), fault(api.ErrForm, 0)}, {many, fault(api.ErrMany, 0)}, {many[1:], none}, {nil, none},
	} {
		_, f := Sign(pt, c.p)
		want(t, "Sign: "+told(c.p), f, c.wanted)
	}
	for _, c := range []struct {
		text   string
		wanted api.Fault
	}{
		{"1 1 1 1, x 1 1 1", fault(api.ErrText, 1)}, {"1 1 1", fault(api.ErrSize, 0)}, {"1 1 1 1, 1 0 0 41", fault(api.ErrRange, 1)}, {"1 0 0 40", none},
		{"", fault(api.ErrZero, 0)}, {"0 0 0 1", fault(api.ErrZero, 0)}, {"1 2 0 3, -2 0 0 3", fault(api.ErrZero, 0)}, {"1 2 0 3, -2 0 0 3, 1 0 0 0", none}, {"1 2 0 3, -2 0 0 3, 1 0 4 0, -2 0 0 0", fault(api.ErrZero, 0)},
	} {
		n, f := Count(pt, parse(c.text))
		want(t, "Count: "+c.text, f, c.wanted)
		want(t, "Count: "+c.text, f != none && n != 0, false)
	}
	// Above a point of four coordinates nothing can be counted, whatever is asked.
	pt, _ = Of([]string{"1", "2", "3", "4"})
	_, f := Count(pt, parse("1 1 1 1 1 1"))
	want(t, "five variables", f, fault(api.ErrRange, 0))
	_, f = Count(pt, parse("x"))
	want(t, "five variables", f, fault(api.ErrRange, 0))
}

// P9.5: its own fault stands ahead of Check's.
func TestNearFaults(t *testing.T) {
	pt, bad := parsePoint("1: 1 2, -2 0"), parsePoint("2: 1 2, -2 0")
	for _, c := range []struct {
		n      int
		wanted api.Fault
	}{{-1, fault(api.ErrRange, 0)}, {0, none}, {100, none}, {101, fault(api.ErrRange, 0)}, {1 << 62, fault(api.ErrRange, 0)}, {-1 << 62, fault(api.ErrRange, 0)}} {
		_, f := Near(pt, c.n)
		want(t, "Near", f, c.wanted)
		if c.wanted == none {
			continue
		}
		_, f = Near(bad, c.n)
		want(t, "Near", f, c.wanted)
		_, f = Near(nil, c.n)
		want(t, "Near", f, c.wanted)
	}
	_, f := Near(bad, 3)
	want(t, "Near", f, fault(api.ErrRange, 0))
	_, f = Near(nil, 3)
	want(t, "Near", f, fault(api.ErrSize, 0))
}
