package terms

import "slices"

// Over is p divided by q, which is not 0, and true, if that is a polynomial of no more than so many terms; else nothing
// and false.
func (p Poly) Over(q Poly, most int) (Poly, bool) {
	var over []term
	for len(p.ts) > 0 {
		t, is := p.ts[0].over(q.ts[0])
		if !is || len(over) == most {
			return Poly{}, false
		}
		over = append(over, t)
		p = p.Sub(q.times(t))
	}
	return Poly{slices.Clip(over)}, true
}

// over is what times the term u, which is not 0, is t, and whether there is such a term.
func (t term) over(u term) (term, bool) {
	for v, e := range u.e {
		if t.e[v] < e {
			return term{}, false
		}
		t.e[v] -= e
	}
	// It is not refused: u is not 0.
	t.c, _ = t.c.Quo(u.c)
	return t, true
}
