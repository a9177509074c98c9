package line

import (
	"cmp"
	"slices"

	"radicand/algebraic"
	"radicand/api"
)

// A cut parts the line just below x, or just above it.
type cut struct {
	x     algebraic.Number
	above bool
}

// cmp is -1, 0 or 1, as c is below d, is d, or above it.
func (c cut) cmp(d cut) int { return cmp.Or(c.x.Cmp(d.x), c.side()-d.side()) }

func (c cut) side() int {
	if c.above {
		return 1
	}
	return 0
}

// A set is told by the cuts at which the line comes into it or goes out of it: a list of pieces is in its form just
// if its ends are cuts that rise.
type set struct {
	low  bool // what is below all cuts is in it
	cuts []cut
}

// behind tells whether what comes next behind the first n cuts is in s.
func (s set) behind(n int) bool { return s.low != (n%2 == 1) }

// high tells whether what is above all cuts is in s.
func (s set) high() bool { return s.behind(len(s.cuts)) }

// has tells whether x is in s.
func (s set) has(x algebraic.Number) bool {
	n, is := slices.BinarySearchFunc(s.cuts, cut{x, false}, cut.cmp)
	if is {
		n++
	}
	return s.behind(n)
}

// turn makes what is above c, which is above all cuts so far, be in s or not.
func (s *set) turn(c cut, in bool) {
	if s.high() != in {
		s.cuts = append(s.cuts, c)
	}
}

// joined is the numbers of which wanted says so, by whether they are in s and whether they are in t.
func joined(s, t set, wanted func(inS, inT bool) bool) set {
	u := set{low: wanted(s.low, t.low)}
	i, j := 0, 0
	for i < len(s.cuts) || j < len(t.cuts) {
		var c cut
		order := first(s.cuts[i:], t.cuts[j:])
		if order >= 0 {
			c = t.cuts[j]
			j++
		}
		if order <= 0 {
			c = s.cuts[i]
			i++
		}
		u.turn(c, wanted(s.behind(i), t.behind(j)))
	}
	return u
}

// first is -1, 0 or 1, as the first cut of a is next, both are, or that of b; one of them has a cut.
func first(a, b []cut) int {
	if len(b) == 0 {
		return -1
	}
	if len(a) == 0 {
		return 1
	}
	return a[0].cmp(b[0])
}

// pieces is s in its form.
func (s set) pieces() []api.Piece {
	var l []api.Piece
	p := api.Piece{Low: true}
	for i, c := range s.cuts {
		if !s.behind(i) {
			p = api.Piece{From: c.x.Told(), Least: !c.above}
			continue
		}
		p.To, p.Most = c.x.Told(), c.above
		l = append(l, p)
	}
	if s.high() {
		p.High = true
		l = append(l, p)
	}
	return l
}
