package line

import (
	"radicand/algebraic"
	"radicand/api"
)

// A piece is one of which the ends that it has are read.
type piece struct {
	api.Piece
	from, to algebraic.Number
}

// read is the set of these pieces, and the fault of what is not one in its form.
func read(l []api.Piece, r *algebraic.Reader) (set, api.Fault) {
	if len(l) > api.MaxPieces {
		return set{}, api.Fault{Code: api.ErrMany}
	}
	var s set
	for i, given := range l {
		p, code := readPiece(given, r)
		if code == 0 && !s.add(p) {
			code = api.ErrOrder
		}
		if code != 0 {
			return set{}, api.Fault{Code: code, At: i}
		}
	}
	return s, api.Fault{}
}

// readPiece is a piece with its ends, and the code of the fault of what is not written as one.
func readPiece(given api.Piece, r *algebraic.Reader) (p piece, code int) {
	p.Piece = given
	if p.from, code = readEnd(p.From, p.Low, p.Least, r); code != 0 {
		return piece{}, code
	}
	if p.to, code = readEnd(p.To, p.High, p.Most, r); code != 0 {
		return piece{}, code
	}
	return p, 0
}

// readEnd is the end of a piece, and the code of its fault: where the piece has no end, nothing may be written.
func readEnd(end api.Alg, without, in bool, r *algebraic.Reader) (algebraic.Number, int) {
	if !without {
		x, fault := r.Read(end)
		return x, fault.Code
	}
	if in || len(end.F) > 0 || end.K != 0 {
		return algebraic.Number{}, api.ErrForm
	}
	return algebraic.Number{}, 0
}

// add takes p into s, and tells whether it may stand there: above all of s, and with some number between.
func (s *set) add(p piece) bool {
	if s.high() || p.Low && len(s.cuts) > 0 {
		return false
	}
	s.low = s.low || p.Low
	return (p.Low || s.rise(cut{p.from, !p.Least})) && (p.High || s.rise(cut{p.to, p.Most}))
}

// rise adds c, if it is above all cuts so far, and tells whether it is.
func (s *set) rise(c cut) bool {
	if n := len(s.cuts); n > 0 && s.cuts[n-1].cmp(c) >= 0 {
		return false
	}
	s.cuts = append(s.cuts, c)
	return true
}
