package line

import (
	"radicand/algebraic"
	"radicand/api"
	"radicand/poly"
)

// where is all x at which p, of which the roots can be told, has a sign that is wanted.
func where(p poly.Poly, wanted func(sign int) bool) set {
	sign := p.Lead().Sign()
	if p.Degree()%2 == 1 {
		sign = -sign
	}
	s := set{low: wanted(sign)}
	// Of 0 there is a fault and no list: it has one sign everywhere.
	zs, _ := algebraic.Zeros(p)
	for _, z := range zs {
		s.turn(cut{z.Number, false}, wanted(0))
		if z.Times%2 == 1 {
			sign = -sign
		}
		s.turn(cut{z.Number, true}, wanted(sign))
	}
	return s
}

// related tells whether what has that sign is in the relation to 0.
func related(sign, rel int) bool {
	switch rel {
	case api.Eq:
		return sign == 0
	case api.Ne:
		return sign != 0
	case api.Lt:
		return sign < 0
	case api.Le:
		return sign <= 0
	case api.Gt:
		return sign > 0
	}
	return sign >= 0
}
