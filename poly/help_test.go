package poly

import (
	"strings"
	"testing"

	"radicand/api"
	"radicand/num"
)

// want is a failure, if what is told is not what is wanted.
func want[T comparable](t *testing.T, what string, got, wanted T) {
	t.Helper()
	if got != wanted {
		t.Fatalf("%s: got %v, want %v", short(what), got, wanted)
	}
}

func short(s string) string {
	if len(s) > 200 {
		return s[:200] + ".."
	}
	return s
}

func fault(code, at int) api.Fault { return api.Fault{Code: code, At: at} }

// told is a polynomial as its texts, with spaces between.
func told(p Poly) string { return strings.Join(p.Texts(), " ") }

// wantPoly is a failure, if a polynomial is not the one with these texts, or not in its form.
func wantPoly(t *testing.T, what string, got Poly, wanted string) {
	t.Helper()
	want(t, what, short(told(got)), short(wanted))
	want(t, what, told(got) == wanted, true)
	want(t, what+", last", len(got.cs) == 0 || got.Lead().Sign() != 0, true)
}

func wantSame(t *testing.T, what string, got, wanted Poly) {
	t.Helper()
	wantPoly(t, what, got, told(wanted))
	want(t, what, got.Same(wanted) && wanted.Same(got), true)
}

func frac(t *testing.T, text string) num.Frac {
	t.Helper()
	x, f := num.ParseFrac(text)
	want(t, text, f, fault(0, 0))
	return x
}

// read is the polynomial that told tells so.
func read(t *testing.T, text string) Poly {
	t.Helper()
	var cs []num.Frac
	for _, c := range strings.Fields(text) {
		cs = append(cs, frac(t, c))
	}
	return Of(cs...)
}

// A draw gives polynomials, the same ones each time.
type draw struct{ state uint64 }

func (d *draw) next() uint64 {
	d.state += 0x9e3779b97f4a7c15
	z := d.state
	z = (z ^ z>>30) * 0xbf58476d1ce4e5b9
	z = (z ^ z>>27) * 0x94d049bb133111eb
	return z ^ z>>31
}

func (d *draw) below(n int) int { return int(d.next() % uint64(n)) }

// frac is a fraction of one of some kinds: small integers, small fractions, numbers of several words.
func (d *draw) frac(kind int) num.Frac {
	switch kind {
	case 0:
		return number(d.below(9) - 4)
	case 1:
		return ratio(num.Of(d.below(41)-20), num.Of(1+d.below(12)))
	}
	a, b := num.Of(int(d.next())), num.Of(1+int(d.next()>>1))
	for range d.below(5) {
		a = a.Mul(num.Of(int(d.next())))
	}
	if d.below(2) == 0 {
		return num.Whole(a)
	}
	return ratio(a, b)
}

const kinds = 3

// poly is a polynomial of degree n at most.
func (d *draw) poly(kind, n int) Poly {
	cs := make([]num.Frac, d.below(n+1)+1)
	for i := range cs {
		cs[i] = d.frac(kind)
	}
	return Of(cs...)
}

// nonzero is a polynomial that is not 0, of degree n at most.
func (d *draw) nonzero(kind, n int) Poly {
	for {
		if p := d.poly(kind, n); p.Degree() >= 0 {
			return p
		}
	}
}

// The ways below are the plainest ones, to hold the package's ways against.

func plainMul(p, q Poly) Poly {
	if p.Degree() < 0 || q.Degree() < 0 {
		return Poly{}
	}
	cs := make([]num.Frac, p.Degree()+q.Degree()+1)
	for i, a := range p.cs {
		for j, b := range q.cs {
			cs[i+j] = cs[i+j].Add(a.Mul(b))
		}
	}
	return Of(cs...)
}

func plainRest(p, d Poly) Poly {
	for p.Degree() >= d.Degree() {
		k, _ := p.Lead().Quo(d.Lead())
		cs := make([]num.Frac, p.Degree()-d.Degree()+1)
		cs[len(cs)-1] = k
		p = p.Sub(plainMul(Of(cs...), d))
	}
	return p
}

func plainGcd(p, q Poly) Poly {
	for q.Degree() >= 0 {
		p, q = q, plainRest(p, q).Monic()
	}
	return p.Monic()
}

// plainResultant is the determinant that the document speaks of.
func plainResultant(p, q Poly) num.Frac {
	if p.Degree() < 0 || q.Degree() < 0 {
		return num.Frac{}
	}
	size := p.Degree() + q.Degree()
	var rows [][]num.Frac
	for _, of := range [][2]Poly{{p, q}, {q, p}} {
		for i := range of[1].Degree() {
			row := make([]num.Frac, size)
			for j, c := range of[0].cs {
				row[i+of[0].Degree()-j] = c
			}
			rows = append(rows, row)
		}
	}
	det := one()
	for k := range rows {
		i := k
		for i < size && rows[i][k].Sign() == 0 {
			i++
		}
		if i == size {
			return num.Frac{}
		}
		if i > k {
			rows[i], rows[k] = rows[k], rows[i]
			det = det.Neg()
		}
		det = det.Mul(rows[k][k])
		for _, row := range rows[k+1:] {
			by, _ := row[k].Quo(rows[k][k])
			for j := k; j < size; j++ {
				row[j] = row[j].Sub(by.Mul(rows[k][j]))
			}
		}
	}
	return det
}
