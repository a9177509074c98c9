package point

import (
	"fmt"
	"math/big"
	"slices"
	"strconv"
	"strings"
	"testing"

	"radicand/api"
)

// want is a failure, if what is told is not what is wanted.
func want[T comparable](t *testing.T, what string, got, wanted T) {
	t.Helper()
	if got != wanted {
		t.Fatalf("%s: got %v, want %v", short(what), short(fmt.Sprint(got)), short(fmt.Sprint(wanted)))
	}
}

func short(s string) string {
	if len(s) > 600 {
		return s[:600] + ".."
	}
	return s
}

func fault(code, at int) api.Fault { return api.Fault{Code: code, At: at} }

var none = api.Fault{}

// parse reads terms with commas between: each its coefficient and its exponents.
func parse(text string) []api.Term {
	var l []api.Term
	for s := range strings.SplitSeq(text, ",") {
		words := strings.Fields(s)
		if len(words) == 0 {
			continue
		}
		t := api.Term{C: words[0]}
		for _, w := range words[1:] {
			e, err := strconv.Atoi(w)
			if err != nil {
				panic(err)
			}
			t.E = append(t.E, e)
		}
		l = append(l, t)
	}
	return l
}

// parsePoint reads coordinates with semicolons between: each its K, a colon, and terms.
func parsePoint(text string) []api.Root {
	var pt []api.Root
	for s := range strings.SplitSeq(text, ";") {
		k, p, _ := strings.Cut(s, ":")
		n, err := strconv.Atoi(strings.TrimSpace(k))
		if err != nil {
			panic(err)
		}
		pt = append(pt, api.Root{P: parse(p), K: n})
	}
	return pt
}

// told is all that is in terms, as parse reads it.
func told(l []api.Term) string {
	texts := make([]string, len(l))
	for i, t := range l {
		texts[i] = t.C
		for _, e := range t.E {
			texts[i] += " " + strconv.Itoa(e)
		}
	}
	return strings.Join(texts, ", ")
}

// toldPoint is all that is in a point, as parsePoint reads it.
func toldPoint(pt []api.Root) string {
	texts := make([]string, len(pt))
	for i, x := range pt {
		texts[i] = strconv.Itoa(x.K) + ": " + told(x.P)
	}
	return strings.Join(texts, "; ")
}

// copied is a point with lists of its own.
func copied(pt []api.Root) []api.Root {
	c := slices.Clone(pt)
	for i := range c {
		c[i].P = slices.Clone(c[i].P)
		for j := range c[i].P {
			c[i].P[j].E = slices.Clone(c[i].P[j].E)
		}
	}
	return c
}

// wider is p as a polynomial of n variables.
func wider(p []api.Term, n int) []api.Term {
	l := make([]api.Term, len(p))
	for i, t := range p {
		e := make([]int, n)
		copy(e, t.E)
		l[i] = api.Term{C: t.C, E: e}
	}
	return l
}

// A draw gives numbers and polynomials, the same ones each time.
type draw struct{ state uint64 }

func (d *draw) below(n int) int {
	d.state += 0x9e3779b97f4a7c15
	z := d.state
	z = (z ^ z>>30) * 0xbf58476d1ce4e5b9
	z = (z ^ z>>27) * 0x94d049bb133111eb
	return int((z ^ z>>31) % uint64(n))
}

// frac is a small integer, or, one time of eight, a fraction.
func (d *draw) frac() string {
	if d.below(8) > 0 {
		return strconv.Itoa(d.below(7) - 3)
	}
	return big.NewRat(int64(d.below(41)-20), int64(1+d.below(12))).RatString()
}

// terms is so many terms of n variables, with exponents up to most.
func (d *draw) terms(n, many, most int) []api.Term {
	l := make([]api.Term, many)
	for i := range l {
		e := make([]int, n)
		for v := range e {
			e[v] = d.below(most + 1)
		}
		l[i] = api.Term{C: d.frac(), E: e}
	}
	return l
}

func wantSign(t *testing.T, pt []api.Root, p []api.Term, wanted int) {
	t.Helper()
	s, f := Sign(pt, p)
	want(t, toldPoint(pt)+" | "+told(p)+": fault", f, none)
	want(t, toldPoint(pt)+" | "+told(p)+": sign", s, wanted)
}

func wantCount(t *testing.T, pt []api.Root, p []api.Term, wanted int) {
	t.Helper()
	n, f := Count(pt, p)
	want(t, toldPoint(pt)+" | "+told(p)+": fault", f, none)
	want(t, toldPoint(pt)+" | "+told(p)+": count", n, wanted)
}
