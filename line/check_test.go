package line

import (
	"slices"
	"strings"
	"testing"

	"radicand/api"
	"radicand/num"
	"radicand/real"
)

// P6.1, and the faults of sets that are handed in

func TestCheck(t *testing.T) {
	for _, c := range []struct {
		l        string
		code, at int
	}{
		{"", 0, 0}, {"(oo;oo)", 0, 0}, {"[1]", 0, 0}, {"(1;2)", 0, 0}, {"[1;2]", 0, 0}, {"(oo;1)", 0, 0}, {"[1;oo)", 0, 0}, {"[-2 0 1:0;-2 0 1:1)", 0, 0}, {"(oo;1), (1;oo)", 0, 0},
		{"(oo;1], (2;3), (3;4), [5], (5 1:0;6)", api.ErrOrder, 4}, {"(oo;1], (2;3), (3;4), [5], (6;oo)", 0, 0},
		// No number.
		{"(1)", api.ErrOrder, 0}, {"[1)", api.ErrOrder, 0}, {"(1]", api.ErrOrder, 0}, {"[2;1]", api.ErrOrder, 0}, {"(2;1)", api.ErrOrder, 0}, {"[-2 0 1:1;-2 0 1:0]", api.ErrOrder, 0},
		{"[-2 0 1:1;-7 5:0]", api.ErrOrder, 0}, {"[-7 5:0;-2 0 1:1]", 0, 0},
		// Common numbers, or none between.
		{"[1;2], [2;3]", api.ErrOrder, 1}, {"[1;2], (2;3]", api.ErrOrder, 1}, {"[1;2), [2;3]", api.ErrOrder, 1}, {"[1;2), (2;3]", 0, 0}, {"[1], [1]", api.ErrOrder, 1}, {"[1;2), [2]", api.ErrOrder, 1},
		{"[1;3], [2;4]", api.ErrOrder, 1}, {"[1;4], [2;3]", api.ErrOrder, 1}, {"[1;2], [1;2]", api.ErrOrder, 1}, {"[3;4], [1;2]", api.ErrOrder, 1}, {"[1], [2], [1]", api.ErrOrder, 2},
		{"(1;-2 0 1:1), (-2 0 1:1;2)", 0, 0}, {"(1;-2 0 1:1], (-2 0 1:1;2)", api.ErrOrder, 1}, {"(1;-2 0 1:1), [-2 0 1:1;2)", api.ErrOrder, 1},
		// Without an end in the midst.
		{"[1;oo), [2;3]", api.ErrOrder, 1}, {"[1;2], (oo;3]", api.ErrOrder, 1}, {"(oo;oo), (oo;oo)", api.ErrOrder, 1}, {"(oo;1), (oo;1)", api.ErrOrder, 1}, {"(oo;1), (oo;oo)", api.ErrOrder, 1}, {"[1;oo), (oo;0)", api.ErrOrder, 1},
		// The first fault is told.
		{"[2;1], [4 0 1:0;5]", api.ErrOrder, 0}, {"[1;2], [-4 0 1:0;5]", api.ErrForm, 1}, {"[1;2], [-2 0 1:2;5]", api.ErrRange, 1},
	} {
		want(t, c.l, Check(parse(c.l)), fault(c.code, c.at))
	}
}

// All pairs of pieces with three ends: what is in its form is told by places.
func TestCheckOfAllPairs(t *testing.T) {
	xs := places()[:7]
	n := len(xs)
	for i := range n * n {
		for j := range n * n {
			a, b, c, d := i/n, i%n, j/n, j%n
			if backwards(a, b, n) || backwards(c, d, n) {
				continue
			}
			l := []api.Piece{pieceOf(xs, a, b), pieceOf(xs, c, d)}
			wanted := none
			if a > b {
				wanted = fault(api.ErrOrder, 0)
			} else if c > d || c < b+2 {
				wanted = fault(api.ErrOrder, 1)
			}
			want(t, told(l), Check(l), wanted)
		}
	}
}

// backwards tells that pieceOf would leave away ends that are not there.
func backwards(i, j, n int) bool { return i > j && (i == n-1 || j == 0) }

func TestCheckOfDraws(t *testing.T) {
	d, xs := draw{1}, places()
	for range 500 {
		in := d.bools(len(xs), 2)
		l := piecesOf(xs, in)
		want(t, told(l), Check(l), none)
		if len(l) < 2 {
			continue
		}
		i := 1 + d.below(len(l)-1)
		l[i-1], l[i] = l[i], l[i-1]
		want(t, "exchanged: "+told(l), Check(l), fault(api.ErrOrder, i))
		l[i-1] = l[i]
		want(t, "twice: "+told(l), Check(l), fault(api.ErrOrder, i))
	}
}

// What is not written as an end, with the code of its fault.
func badEnds() []struct {
	a    api.Alg
	code int
} {
	texts := func(n int, last string) []string { return append(slices.Repeat([]string{"0"}, n), last) }
	return []struct {
		a    api.Alg
		code int
	}{
		{api.Alg{}, api.ErrForm}, {alg("0 x", 0), api.ErrText}, {alg("-2 0 "+strings.Repeat("9", 1001), 0), api.ErrLong}, {alg("-2 0 1 0", 0), api.ErrForm}, {alg("-4 0 1", 0), api.ErrForm},
		{alg("-4 0 2", 0), api.ErrForm}, {api.Alg{F: texts(17, "1")}, api.ErrMany}, {api.Alg{F: texts(201, "1")}, api.ErrMany}, {alg("-2 0 1", 2), api.ErrRange}, {alg("-2 0 1", -1), api.ErrRange},
		{alg("1 0 1", 0), api.ErrRange}, {api.Alg{F: []string{"-1 1", "1"}}, api.ErrText}, {api.Alg{F: []string{"-2 0 1"}, K: 1}, api.ErrText},
	}
}

func TestCheckOfEnds(t *testing.T) {
	good := alg("-2 0 1", 1)
	for _, c := range badEnds() {
		for _, p := range []api.Piece{
			{From: c.a, To: good}, {From: c.a, High: true}, {From: good, To: c.a}, {Low: true, To: c.a}, {From: c.a, To: c.a, Least: true, Most: true},
			// Ahead of what is wrong of the other end, and of the order.
			{From: c.a, To: alg("0 1", 0), High: true}, {From: c.a, Most: true, High: true}, {From: c.a, To: alg("5 0 1", 3)}, {From: alg("-9 1", 0), To: c.a},
		} {
			want(t, told([]api.Piece{p}), Check([]api.Piece{p}), fault(c.code, 0))
			l := []api.Piece{{Low: true, To: alg("3 1", 0)}, {From: alg("2 1", 0), To: alg("-1 1", 0)}, p, {From: good, To: good}}
			want(t, told(l), Check(l), fault(c.code, 2))
		}
	}
}

func TestCheckOfForm(t *testing.T) {
	a, b := alg("-1 1", 0), alg("-2 1", 0)
	for _, c := range []struct {
		p    api.Piece
		code int
	}{
		{api.Piece{Low: true, From: a, To: b}, api.ErrForm}, {api.Piece{Low: true, From: api.Alg{K: 1}, To: b}, api.ErrForm}, {api.Piece{Low: true, Least: true, To: b}, api.ErrForm},
		{api.Piece{From: a, High: true, To: b}, api.ErrForm}, {api.Piece{From: a, High: true, To: api.Alg{K: -1}}, api.ErrForm}, {api.Piece{From: a, High: true, Most: true}, api.ErrForm},
		{api.Piece{Low: true, High: true, From: a}, api.ErrForm}, {api.Piece{Low: true, High: true, Most: true}, api.ErrForm}, {api.Piece{Low: true, From: api.Alg{F: []string{""}}, To: b}, api.ErrForm},
		{api.Piece{}, api.ErrForm}, {api.Piece{Least: true, Most: true}, api.ErrForm}, {api.Piece{Low: true}, api.ErrForm}, {api.Piece{High: true}, api.ErrForm},
		// An end that is wrong ahead of one that must not be, and the other way round.
		{api.Piece{From: alg("-2 0 1", 7), High: true, Most: true}, api.ErrRange}, {api.Piece{Low: true, Least: true, To: alg("-2 0 1", 7)}, api.ErrForm},
		{api.Piece{Low: true, To: b, Most: true}, 0}, {api.Piece{From: a, Least: true, High: true}, 0}, {api.Piece{Low: true, From: api.Alg{F: []string{}}, To: b}, 0}, {api.Piece{Low: true, High: true, To: api.Alg{F: []string{}}}, 0},
	} {
		want(t, told([]api.Piece{c.p}), Check([]api.Piece{c.p}), fault(c.code, 0))
	}
}

// points is that many of them, from 0 on.
func points(n int) []api.Piece {
	l := make([]api.Piece, n)
	for i := range l {
		l[i] = api.Piece{From: real.Of(whole(i)), To: real.Of(whole(i)), Least: true, Most: true}
	}
	return l
}

func TestCheckOfMany(t *testing.T) {
	want(t, "as many as may be", Check(points(1000)), none)
	want(t, "one more", Check(points(1001)), fault(api.ErrMany, 0))
	l := points(1001)
	l[0] = api.Piece{Low: true, Least: true}
	want(t, "ahead of the others", Check(l), fault(api.ErrMany, 0))
	want(t, "the form", Check(l[:1000]), fault(api.ErrForm, 0))
	l = points(1000)
	l[999].From = alg("-1 1", 1)
	want(t, "the last", Check(l), fault(api.ErrRange, 999))
	l[999] = l[998]
	want(t, "twice", Check(l), fault(api.ErrOrder, 999))
}

// Ends of the greatest degree, and with many digits.
func TestCheckOfLongEnds(t *testing.T) {
	d := draw{2}
	var l []api.Piece
	for i := range 1000 {
		// The root of x^16 + a x - 3 that is above 0 rises, as a falls.
		f := make([]string, 17)
		for j := range f {
			f[j] = "0"
		}
		f[0], f[1], f[16] = "-3", num.Of(1000000-i*900).Text()+d.long(100).Text(), "1"
		a := api.Alg{F: f, K: 1}
		l = append(l, api.Piece{From: a, To: copied(a), Least: true, Most: true})
	}
	want(t, "degree 16", Check(l), none)
	l[500], l[501] = l[501], l[500]
	want(t, "exchanged", Check(l), fault(api.ErrOrder, 501))
}

// The root of two, and fractions just below and just above it.
func TestCheckOfCloseEnds(t *testing.T) {
	two := alg("-2 0 1", 1)
	for _, n := range []int{1, 20, 200} {
		far, _ := num.Of(10).Pow(n)
		m, _ := far.Mul(far).Mul(num.Of(2)).Root(2)
		x, _ := num.Over(m, far)
		y, _ := num.Over(m.Add(num.Of(1)), far)
		rising := []api.Alg{real.Of(x), two, real.Of(y)}
		for i, a := range rising {
			for j, b := range rising {
				wanted := none
				if i > j {
					wanted = fault(api.ErrOrder, 0)
				}
				want(t, "close", Check([]api.Piece{{From: a, To: b, Least: true, Most: true}}), wanted)
			}
		}
	}
}

func TestFaultsOfSets(t *testing.T) {
	good, bad, worse := parse("[1;2]"), parse("[1;2], (2;3)"), parse("[2;1]")
	x, y := alg("0 1", 0), alg("-2 1 x", 0)
	for _, c := range []struct {
		a, b   []api.Piece
		wanted api.Fault
	}{
		{bad, good, fault(api.ErrOrder, 1)}, {good, bad, fault(api.ErrOrder, 1)}, {bad, worse, fault(api.ErrOrder, 1)}, {worse, bad, fault(api.ErrOrder, 0)},
		{points(1001), worse, fault(api.ErrMany, 0)}, {good, points(1001), fault(api.ErrMany, 0)}, {nil, []api.Piece{{}}, fault(api.ErrForm, 0)},
	} {
		for _, call := range []two{And, Or} {
			l, f := call(c.a, c.b)
			want(t, "fault", f, c.wanted)
			want(t, "nothing", len(l), 0)
		}
		if f := Check(c.a); f != none {
			l, g := Not(c.a)
			want(t, "Not", g, f)
			want(t, "nothing", len(l), 0)
			is, g := Holds(c.a, x)
			want(t, "Holds", g, f)
			_, g = Holds(c.a, y)
			want(t, "Holds: the set first", g, f)
			want(t, "nothing", is, false)
		}
	}
	for _, c := range []struct {
		x      api.Alg
		wanted api.Fault
	}{
		{y, fault(api.ErrText, 2)}, {api.Alg{}, fault(api.ErrForm, 0)}, {alg("-4 0 1", 0), fault(api.ErrForm, 0)}, {alg("-2 0 1", 2), fault(api.ErrRange, 0)},
		{alg("-1 1", 1), fault(api.ErrRange, 0)}, {alg("-1 1 0", 0), fault(api.ErrForm, 2)}, {api.Alg{F: power(17).Texts()}, fault(api.ErrMany, 0)},
	} {
		for _, a := range [][]api.Piece{nil, good, parse("(oo;oo)")} {
			is, f := Holds(a, c.x)
			want(t, "Holds", f, c.wanted)
			want(t, "nothing", is, false)
		}
	}
}
