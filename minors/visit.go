package minors

import (
	"slices"

	"radicand/num"
	"radicand/residue"
	"radicand/terms"
)

// all is what All tells, by the values at the grid's points modulo primes.
func (g *grid) all() map[int]terms.Poly {
	lifts, primes := make([]residue.Lift, g.most+1), make([]int, g.most+1)
	for j := g.least; j <= g.most; j++ {
		primes[j] = g.primes(j)
	}
	f := residue.First()
	for last := g.most; last >= g.least; f = f.Next() {
		for j, row := range g.visit(f, last) {
			lifts[g.least+j].Add(f, row)
		}
		// No number asks for more primes than that below it.
		for last >= g.least && lifts[last].Len() == primes[last] {
			last--
		}
	}
	found := map[int]terms.Poly{}
	for j := g.least; j <= g.most; j++ {
		if m := g.made(j, lifts[j].Numbers()); m.Len() > 0 {
			found[j] = m
		}
	}
	return found
}

// made is the determinant number j of these coefficients, which stand as the points of the grid do.
func (g *grid) made(j int, ks []num.Int) terms.Poly {
	return terms.Total(len(ks), func(i int) terms.Poly {
		var e terms.Power
		rest := i
		for _, f := range slices.Backward(g.folds) {
			size := g.size(f, j)
			e[f.v] = rest % size
			rest /= size
		}
		return terms.Single(num.Whole(ks[i]), e)
	})
}

// A visit goes to all points of a grid, modulo a prime.
type visit struct {
	*grid
	residue.Points
	at   []int      // the point, as far as it is fixed: the value of each fold's variable
	room [][]uint64 // what is left of the numbers behind each fold
	a, b []uint64   // what is left of the pair; where nothing stands it stays 0
	told [][]uint64 // of each determinant, from the number least on: its values at the points
}

// visit is the coefficients of the determinants from the number least to last, modulo the prime of the field.
func (g *grid) visit(f residue.Field, last int) [][]uint64 {
	v := visit{grid: g, at: make([]int, len(g.folds)), a: make([]uint64, len(g.a)), b: make([]uint64, len(g.b))}
	points := 1
	for _, f := range g.folds {
		points = max(points, g.size(f, g.least))
		v.room = append(v.room, make([]uint64, f.many))
	}
	v.Points = f.Points(points)
	for j := g.least; j <= last; j++ {
		v.told = append(v.told, make([]uint64, g.volume(j)))
	}
	v.walk(0, f.List(g.ks))
	for j := g.least; j <= last; j++ {
		v.interpolate(j)
	}
	return v.told
}

// walk goes to all points with the values of the variables of the first t folds, where the terms' numbers are ns.
func (v *visit) walk(t int, ns []uint64) {
	if t == len(v.folds) {
		v.tell(ns)
		return
	}
	f := v.folds[t]
	for i := range v.size(f, v.least) {
		v.at[t] = i
		v.Sums(v.room[t], ns, f.to, f.by, v.Powers(i, max(f.a, f.b)))
		v.walk(t+1, v.room[t])
	}
}

// tell puts down the determinants' values at a point, at which ns is what is left of the coefficients in their slots.
func (v *visit) tell(ns []uint64) {
	for i, n := range ns {
		if s := v.slots[i]; s < len(v.a) {
			v.a[s] = n
		} else {
			v.b[s-len(v.a)] = n
		}
	}
	found := v.Minors(v.a, v.b)[v.least:]
	for j, values := range v.told {
		if i, is := v.index(v.least + j); is {
			values[i] = found[j]
		}
	}
}

// index is where the point stands among those of the determinant number j, and whether it is one of them.
func (v *visit) index(j int) (int, bool) {
	n := 0
	for t, f := range v.folds {
		size := v.size(f, j)
		if v.at[t] >= size {
			return 0, false
		}
		n = n*size + v.at[t]
	}
	return n, true
}

// interpolate puts coefficients in the place of the values of the determinant number j: along the lines of one variable
// after the other.
func (v *visit) interpolate(j int) {
	values, apart := v.told[j-v.least], 1
	for t := len(v.folds) - 1; t >= 0; t-- {
		line := make([]uint64, v.size(v.folds[t], j))
		for first := range values {
			if first/apart%len(line) != 0 {
				continue
			}
			for i := range line {
				line[i] = values[first+i*apart]
			}
			v.Through(line)
			for i, k := range line {
				values[first+i*apart] = k
			}
		}
		apart *= len(line)
	}
}
