package terms

import (
	"slices"

	"radicand/api"
	"radicand/num"
)

// Check is the fault of what is not a polynomial of n variables, or of an order that is none.
func Check(l []api.Term, n, order int) api.Fault {
	_, fault := readAll(l, n, order)
	return fault
}

// Read is the polynomial of n variables with these terms, and the fault that Check tells.
func Read(l []api.Term, n, order int) (Poly, api.Fault) {
	ts, fault := readAll(l, n, order)
	return total(0, len(ts), func(i int) Poly { return Single(ts[i].c, ts[i].e) }), fault
}

// readAll is the terms as they stand, and the fault of what is none; with a fault there are no terms.
func readAll(l []api.Term, n, order int) ([]term, api.Fault) {
	if n < 1 || n > api.MaxVars {
		return nil, api.Fault{Code: api.ErrRange}
	}
	if order < api.Lex || order > api.Grevlex {
		return nil, api.Fault{Code: api.ErrKind}
	}
	if len(l) > api.MaxTerms {
		return nil, api.Fault{Code: api.ErrMany}
	}
	ts := make([]term, len(l))
	for i, given := range l {
		t, code := readTerm(given, n)
		if code != 0 {
			return nil, api.Fault{Code: code, At: i}
		}
		ts[i] = t
	}
	return ts, api.Fault{}
}

// readTerm is a term of n variables, and the code of the fault of what is none.
func readTerm(given api.Term, n int) (t term, code int) {
	if len(given.E) != n {
		return term{}, api.ErrSize
	}
	for v, e := range given.E {
		if e < 0 || e > api.MaxExp {
			return term{}, api.ErrRange
		}
		t.e[v] = e
	}
	c, fault := num.ParseFrac(given.C)
	t.c = c
	return t, fault.Code
}

// Written is p, of n variables, in its form by one of the orders.
func (p Poly) Written(n, order int) []api.Term {
	ts, ahead := slices.Clone(p.ts), inOrder(order)
	slices.SortFunc(ts, func(a, b term) int { return ahead(a.e, b.e) })
	l := make([]api.Term, len(ts))
	for i, t := range ts {
		l[i] = api.Term{C: t.c.Text(), E: slices.Clone(t.e[:n])}
	}
	return l
}
