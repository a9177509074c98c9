package chain

import (
	"fmt"
	"math/big"
	"slices"
	"strconv"
	"strings"
	"testing"

	"radicand/api"
)

// want is a failure, if what is told is not what is wanted.
func want[T comparable](t *testing.T, what string, got, wanted T) {
	t.Helper()
	if got != wanted {
		t.Fatalf("%s: got %v, want %v", short(what), short(fmt.Sprint(got)), short(fmt.Sprint(wanted)))
	}
}

func short(s string) string {
	if len(s) > 600 {
		return s[:600] + ".."
	}
	return s
}

func fault(code, at int) api.Fault { return api.Fault{Code: code, At: at} }

var none = api.Fault{}

// parse reads terms with commas between: each its coefficient and its exponents.
func parse(text string) []api.Term {
	var l []api.Term
	for s := range strings.SplitSeq(text, ",") {
		words := strings.Fields(s)
		if len(words) == 0 {
			continue
		}
		t := api.Term{C: words[0]}
		for _, w := range words[1:] {
			e, err := strconv.Atoi(w)
			if err != nil {
				panic(err)
			}
			t.E = append(t.E, e)
		}
		l = append(l, t)
	}
	return l
}

// parseAll reads polynomials with semicolons between; none of an empty text.
func parseAll(text string) [][]api.Term {
	if text == "" {
		return nil
	}
	var ls [][]api.Term
	for s := range strings.SplitSeq(text, ";") {
		ls = append(ls, parse(s))
	}
	return ls
}

// told is all that is in terms, as parse reads it.
func told(l []api.Term) string {
	texts := make([]string, len(l))
	for i, t := range l {
		texts[i] = t.C
		for _, e := range t.E {
			texts[i] += " " + strconv.Itoa(e)
		}
	}
	return strings.Join(texts, ", ")
}

// toldAll is all that is in polynomials, as parseAll reads it.
func toldAll(ls [][]api.Term) string {
	texts := make([]string, len(ls))
	for i, l := range ls {
		texts[i] = told(l)
	}
	return strings.Join(texts, "; ")
}

// wantTerms is a failure, if an answer is not these terms without a fault, or if its lists share memory.
func wantTerms(t *testing.T, what string, got []api.Term, f api.Fault, wanted string) {
	t.Helper()
	want(t, what+": fault", f, none)
	want(t, what, told(got), wanted)
	wantAlone(t, what, got)
}

// wantAlone is a failure, if two lists of an answer share memory. It spoils the answer.
func wantAlone(t *testing.T, what string, ls ...[]api.Term) {
	t.Helper()
	n := 0
	for _, l := range ls {
		for i := range l[:cap(l)] {
			l = l[:cap(l)]
			e := l[i].E[:cap(l[i].E)]
			for j := range e {
				e[j] = n
			}
			l[i].C = strconv.Itoa(n)
			n++
		}
	}
	n = 0
	for _, l := range ls {
		for _, x := range l[:cap(l)] {
			want(t, what+": shared", x.C, strconv.Itoa(n))
			for _, e := range x.E[:cap(x.E)] {
				want(t, what+": shared", e, n)
			}
			n++
		}
	}
}

// copied is polynomials with lists of their own.
func copied(ls [][]api.Term) [][]api.Term {
	c := slices.Clone(ls)
	for i := range c {
		c[i] = slices.Clone(c[i])
		for j := range c[i] {
			c[i][j].E = slices.Clone(c[i][j].E)
		}
	}
	return c
}

// A draw gives polynomials, the same ones each time.
type draw struct{ state uint64 }

func (d *draw) below(n int) int {
	d.state += 0x9e3779b97f4a7c15
	z := d.state
	z = (z ^ z>>30) * 0xbf58476d1ce4e5b9
	z = (z ^ z>>27) * 0x94d049bb133111eb
	return int((z ^ z>>31) % uint64(n))
}

// frac is a small integer, 0 with it, or a fraction.
func (d *draw) frac(fractions bool) string {
	if !fractions {
		return strconv.Itoa(d.below(7) - 3)
	}
	return big.NewRat(int64(d.below(41)-20), int64(1+d.below(12))).RatString()
}

// terms is so many terms of n variables, with exponents up to most, of variable v up to high.
func (d *draw) terms(n, many, most, v, high int, fractions bool) []api.Term {
	l := make([]api.Term, many)
	for i := range l {
		e := make([]int, n)
		for v := range e {
			e[v] = d.below(most + 1)
		}
		e[v] = d.below(high + 1)
		l[i] = api.Term{C: d.frac(fractions), E: e}
	}
	return l
}
