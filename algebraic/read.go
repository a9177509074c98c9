package algebraic

import (
	"strings"

	"radicand/api"
	"radicand/factor"
	"radicand/poly"
	"radicand/roots"
)

// A Reader reads numbers. Many numbers may be roots of one polynomial, whose roots take long to tell: it tells them
// once.
type Reader struct {
	known map[string]Number // by the texts of its polynomial, one of the numbers that are read
}

// NewReader is one that has read nothing.
func NewReader() *Reader { return &Reader{known: map[string]Number{}} }

// Read is a, and the fault of what is not written as an algebraic number.
func (r *Reader) Read(a api.Alg) (Number, api.Fault) {
	f, fault := poly.New(a.F)
	if fault.Code != 0 {
		return Number{}, fault
	}
	if f.Degree() > api.MaxFactor {
		return Number{}, api.Fault{Code: api.ErrMany}
	}
	// What poly.New has read has no space in it.
	key := strings.Join(a.F, " ")
	x, is := r.known[key]
	if !is {
		if !proper(f) {
			return Number{}, api.Fault{Code: api.ErrForm}
		}
		x = Number{F: f, All: roots.All(f)}
	}
	if a.K < 0 || a.K >= len(x.All) {
		return Number{}, api.Fault{Code: api.ErrRange}
	}
	x.Rank = a.K
	r.known[key] = x
	return x, api.Fault{}
}

// proper tells whether f is primitive and irreducible.
func proper(f poly.Poly) bool {
	_, primitive := f.Primitive()
	is, _ := factor.Irreducible(f)
	return is && f.Same(primitive)
}
