package multi

import (
	"fmt"
	"math/big"
	"slices"
	"strconv"
	"strings"
	"testing"

	"radicand/api"
)

// want is a failure, if what is told is not what is wanted.
func want[T comparable](t *testing.T, what string, got, wanted T) {
	t.Helper()
	if got != wanted {
		t.Fatalf("%s: got %v, want %v", short(what), short(fmt.Sprint(got)), short(fmt.Sprint(wanted)))
	}
}

func short(s string) string {
	if len(s) > 600 {
		return s[:600] + ".."
	}
	return s
}

func fault(code, at int) api.Fault { return api.Fault{Code: code, At: at} }

var none = api.Fault{}

// parse reads terms with commas between: each its coefficient and its exponents.
func parse(text string) []api.Term {
	var l []api.Term
	for s := range strings.SplitSeq(text, ",") {
		words := strings.Fields(s)
		if len(words) == 0 {
			continue
		}
		t := api.Term{C: words[0]}
		for _, w := range words[1:] {
			e, err := strconv.Atoi(w)
			if err != nil {
				panic(err)
			}
			t.E = append(t.E, e)
		}
		l = append(l, t)
	}
	return l
}

// told is all that is in terms, as parse reads it.
func told(l []api.Term) string {
	texts := make([]string, len(l))
	for i, t := range l {
		texts[i] = t.C
		for _, e := range t.E {
			texts[i] += " " + strconv.Itoa(e)
		}
	}
	return strings.Join(texts, ", ")
}

// wantTerms is a failure, if an answer is not these terms without a fault, or if its lists share memory.
func wantTerms(t *testing.T, what string, got []api.Term, f api.Fault, wanted string) {
	t.Helper()
	want(t, what+": fault", f, none)
	want(t, what, told(got), wanted)
	wantAlone(t, what, got)
}

// wantAlone is a failure, if two lists of an answer share memory. It spoils the answer.
func wantAlone(t *testing.T, what string, l []api.Term) {
	t.Helper()
	for i := range l {
		for j := range l[i].E[:cap(l[i].E)] {
			l[i].E[:cap(l[i].E)][j] = -1 - i
		}
	}
	for i := range l {
		for _, e := range l[i].E[:cap(l[i].E)] {
			want(t, what+": shared", e, -1-i)
		}
	}
}

// copied is l with lists of its own.
func copied(l []api.Term) []api.Term {
	c := slices.Clone(l)
	for i := range c {
		c[i].E = slices.Clone(c[i].E)
	}
	return c
}

// A plain polynomial is told by the coefficient of each power, those that are 0 with it.
type plain map[[api.MaxVars]int]*big.Rat

func rat(text string) *big.Rat {
	x, is := new(big.Rat).SetString(text)
	if !is {
		panic(text)
	}
	return x
}

func (p plain) put(e [api.MaxVars]int, c *big.Rat) {
	if p[e] == nil {
		p[e] = new(big.Rat)
	}
	p[e].Add(p[e], c)
}

func plainOf(ls ...[]api.Term) plain {
	p := plain{}
	for _, l := range ls {
		for _, t := range l {
			var e [api.MaxVars]int
			copy(e[:], t.E)
			p.put(e, rat(t.C))
		}
	}
	return p
}

func (p plain) times(q plain) plain {
	r := plain{}
	for d, a := range p {
		for e, b := range q {
			f := d
			for v := range f {
				f[v] += e[v]
			}
			r.put(f, new(big.Rat).Mul(a, b))
		}
	}
	return r
}

func ratPower(x *big.Rat, n int) *big.Rat {
	p := big.NewRat(1, 1)
	for range n {
		p.Mul(p, x)
	}
	return p
}

func (p plain) fix(v int, x *big.Rat) plain {
	q := plain{}
	for e, c := range p {
		k := ratPower(x, e[v])
		e[v] = 0
		q.put(e, k.Mul(k, c))
	}
	return q
}

func (p plain) value(xs []string) string {
	for v, x := range xs {
		p = p.fix(v, rat(x))
	}
	if x := p[[api.MaxVars]int{}]; x != nil {
		return x.RatString()
	}
	return "0"
}

func (p plain) derive(v int) plain {
	q := plain{}
	for e, c := range p {
		k := big.NewRat(int64(e[v]), 1)
		e[v] = max(0, e[v]-1)
		q.put(e, k.Mul(k, c))
	}
	return q
}

// place is a number for a power of n variables: what has a greater one stands ahead.
func place(e [api.MaxVars]int, n, order int) int {
	const base = 1000
	sum, up, down := 0, 0, 0
	for v := range n {
		sum += e[v]
		up = up*base + e[v]
		down = down*base + e[n-1-v]
	}
	switch order {
	case api.Grlex:
		return sum*base*base*base*base + up
	case api.Grevlex:
		return sum*base*base*base*base - down
	}
	return up
}

// form is p's form, as told tells it.
func (p plain) form(n, order int) string {
	var all [][api.MaxVars]int
	for e, c := range p {
		if c.Sign() != 0 {
			all = append(all, e)
		}
	}
	slices.SortFunc(all, func(a, b [api.MaxVars]int) int { return place(b, n, order) - place(a, n, order) })
	var l []api.Term
	for _, e := range all {
		l = append(l, api.Term{C: p[e].RatString(), E: e[:n]})
	}
	return told(l)
}

var orders = []int{api.Lex, api.Grlex, api.Grevlex}

// A draw gives polynomials, the same ones each time.
type draw struct{ state uint64 }

func (d *draw) next() uint64 {
	d.state += 0x9e3779b97f4a7c15
	z := d.state
	z = (z ^ z>>30) * 0xbf58476d1ce4e5b9
	z = (z ^ z>>27) * 0x94d049bb133111eb
	return z ^ z>>31
}

func (d *draw) below(n int) int { return int(d.next() % uint64(n)) }

// digits is an integer above 0 with so many of them.
func (d *draw) digits(n int) string {
	b := []byte{byte('1' + d.below(9))}
	for len(b) < n {
		b = append(b, byte('0'+d.below(10)))
	}
	return string(b)
}

// frac is a fraction of one of some kinds: small integers (0 with them), small fractions, long ones.
func (d *draw) frac(kind int) string {
	switch kind {
	case 0:
		return strconv.Itoa(d.below(7) - 3)
	case 1:
		return big.NewRat(int64(d.below(41)-20), int64(1+d.below(12))).RatString()
	}
	x := rat(d.digits(1+d.below(50)) + "/" + d.digits(1+d.below(50)))
	if d.below(2) == 0 {
		x.Neg(x)
	}
	return x.RatString()
}

const kinds = 3

func (d *draw) fracs(n, kind int) []string {
	xs := make([]string, n)
	for i := range xs {
		xs[i] = d.frac(kind)
	}
	return xs
}

// terms is so many terms of n variables.
func (d *draw) terms(n, many, most, kind int) []api.Term {
	l := make([]api.Term, many)
	for i := range l {
		e := make([]int, n)
		for v := range e {
			e[v] = d.below(most + 1)
		}
		l[i] = api.Term{C: d.frac(kind), E: e}
	}
	return l
}
