package line

import (
	"fmt"
	"slices"
	"strings"
	"testing"

	"radicand/api"
	"radicand/num"
	"radicand/poly"
	"radicand/real"
)

// want is a failure, if what is told is not what is wanted.
func want[T comparable](t *testing.T, what string, got, wanted T) {
	t.Helper()
	if got != wanted {
		t.Fatalf("%s: got %v, want %v", short(what), got, wanted)
	}
}

func short(s string) string {
	if len(s) > 600 {
		return s[:600] + ".."
	}
	return s
}

func fault(code, at int) api.Fault { return api.Fault{Code: code, At: at} }

var none = api.Fault{}

func whole(n int) num.Frac { return num.Whole(num.Of(n)) }

// of is the polynomial with these coefficients, the lowest first.
func of(cs ...int) poly.Poly {
	xs := make([]num.Frac, len(cs))
	for i, c := range cs {
		xs[i] = whole(c)
	}
	return poly.Of(xs...)
}

// power is x^n.
func power(n int) poly.Poly {
	cs := make([]int, n+1)
	cs[n] = 1
	return of(cs...)
}

// alg is the number with these coefficients, as texts with spaces between, and that K.
func alg(text string, k int) api.Alg { return api.Alg{F: strings.Fields(text), K: k} }

// parse reads pieces with commas between: `[` and `]` are with the end, `(` and `)` without, `oo` is none; a number is
// its K-th root behind a colon, a point alone is written once.
func parse(text string) []api.Piece {
	var l []api.Piece
	for s := range strings.SplitSeq(text, ",") {
		s = strings.TrimSpace(s)
		if s == "" {
			continue
		}
		from, to, two := strings.Cut(s[1:len(s)-1], ";")
		if !two {
			to = from
		}
		p := api.Piece{Least: s[0] == '[', Most: s[len(s)-1] == ']'}
		p.From, p.Low = end(from)
		p.To, p.High = end(to)
		l = append(l, p)
	}
	return l
}

func end(text string) (api.Alg, bool) {
	f, k, colon := strings.Cut(strings.TrimSpace(text), ":")
	if f == "oo" {
		return api.Alg{}, true
	}
	if !colon {
		return real.Of(whole(int([]rune(f)[0] - '0'))), false
	}
	return alg(f, int(k[0]-'0')), false
}

// told is all that is in pieces, as text.
func told(l []api.Piece) string {
	var b strings.Builder
	for _, p := range l {
		fmt.Fprintf(&b, "%v %v %v %v %v %v\n", p.From, p.To, p.Low, p.High, p.Least, p.Most)
	}
	return b.String()
}

func wantSet(t *testing.T, what string, got []api.Piece, f api.Fault, wanted []api.Piece) {
	t.Helper()
	want(t, what+": fault", f, none)
	want(t, what, told(got), told(wanted))
	wantAlone(t, what, got)
}

// wantAlone is a failure, if two lists of an answer share some memory. It spoils the answer.
func wantAlone(t *testing.T, what string, l []api.Piece) {
	t.Helper()
	var all [][]string
	for _, p := range l {
		all = append(all, p.From.F, p.To.F)
	}
	for i, f := range all {
		whole := f[:cap(f)]
		for j := range whole {
			whole[j] = fmt.Sprint(i)
		}
	}
	for i, f := range all {
		for _, text := range f[:cap(f)] {
			want(t, what+": shared", text, fmt.Sprint(i))
		}
	}
}

// The line is rising numbers here, of which those at odd places are ends: so the set of numbers is told by one bool
// each, and pieces go from one place to another.
func places() []api.Alg {
	return []api.Alg{alg("-3 0 1", 0), alg("3 2", 0), alg("-2 0 1", 0), alg("1 1", 0), alg("0 1", 0), alg("1 0 -10 0 1", 2), alg("-1 3", 0), alg("-1 2", 0),
		alg("-2 0 0 1", 0), alg("-2 0 1", 1), alg("-3 2", 0), alg("-3 0 1", 1), alg("-22 7", 0), alg("1 0 -10 0 1", 3), alg("-4 1", 0)}
}

// copied is the number with a list of its own.
func copied(a api.Alg) api.Alg { return api.Alg{F: slices.Clone(a.F), K: a.K} }

// pieceOf is the piece from the place i up to the place j.
func pieceOf(xs []api.Alg, i, j int) api.Piece {
	var p api.Piece
	switch {
	case i == 0:
		p.Low = true
	case i%2 == 1:
		p.From, p.Least = copied(xs[i]), true
	default:
		p.From = copied(xs[i-1])
	}
	switch {
	case j == len(xs)-1:
		p.High = true
	case j%2 == 1:
		p.To, p.Most = copied(xs[j]), true
	default:
		p.To = copied(xs[j+1])
	}
	return p
}

// piecesOf is the set of these places in its form.
func piecesOf(xs []api.Alg, in []bool) []api.Piece {
	var l []api.Piece
	for i := 0; i < len(in); i++ {
		if !in[i] {
			continue
		}
		j := i
		for j+1 < len(in) && in[j+1] {
			j++
		}
		l = append(l, pieceOf(xs, i, j))
		i = j
	}
	return l
}

// A draw gives numbers, the same ones each time.
type draw struct{ state uint64 }

func (d *draw) next() uint64 {
	d.state += 0x9e3779b97f4a7c15
	z := d.state
	z = (z ^ z>>30) * 0xbf58476d1ce4e5b9
	z = (z ^ z>>27) * 0x94d049bb133111eb
	return z ^ z>>31
}

func (d *draw) below(n int) int { return int(d.next() % uint64(n)) }

func (d *draw) near0(n int) int { return d.below(2*n+1) - n }

// bools is n of them; one in so many is another than the one ahead.
func (d *draw) bools(n, seldom int) []bool {
	l, now := make([]bool, n), d.below(2) == 0
	for i := range l {
		l[i] = now
		now = now != (d.below(seldom) == 0)
	}
	return l
}

// poly is of degree n.
func (d *draw) poly(n, most int) poly.Poly {
	cs := make([]int, n+1)
	for i := range cs {
		cs[i] = d.near0(most)
	}
	cs[n] = 1 + d.below(most)
	return of(cs...)
}

// long is an integer of so many digits.
func (d *draw) long(digits int) num.Int {
	a := num.Of(1 + d.below(9))
	for range digits - 1 {
		a = a.Mul(num.Of(10)).Add(num.Of(d.below(10)))
	}
	return a
}
