package roots

import (
	"math"

	"radicand/num"
	"radicand/poly"
	"radicand/whole"
)

// A leap of fewer bits gains less than it takes.
const leastLeap = 4

// A cell is the part of the line between at over 2^k and at + 1 over 2^k, and a polynomial there: the sum of bs[i]
// times C(n, i) x^i (1 - x)^(n - i), where x goes from 0 to 1 and n is its degree (Bernstein's way), times a number
// above 0. Between its ends it has no more roots than bs changes its sign, and as many, if that is 0 or 1.
type cell struct {
	at      num.Int
	k       int
	bs      []num.Int
	changes int
	told    bool // a root at its beginning is told already
	leap    int  // the bits of the next leap
	barred  int  // the k to which the last leap was to go that failed
}

// A search is for the real roots of a polynomial that no square divides.
type search struct {
	f       []num.Int
	weights []num.Int
	wanted  func(at num.Int, k int) bool
	rs      []*Root
}

// find is the roots of f, which is not 0 and which no square divides, rising; those in cells that are not wanted may
// be left away.
func find(f poly.Poly, wanted func(at num.Int, k int) bool) []*Root {
	if f.Degree() < 1 {
		return nil
	}
	_, f = f.Primitive()
	s := search{f: numbers(f), weights: weights(f.Degree()), wanted: wanted}
	k := -bound(s.f)
	cells := []cell{s.cell(num.Of(0), k), s.cell(num.Of(-1), k)}
	for len(cells) > 0 {
		last := len(cells) - 1
		cells = append(cells[:last], s.open(cells[last])...)
	}
	return s.rs
}

// bound is an n for which all roots of f are between -2^n and 2^n (Fujiwara's).
func bound(f []num.Int) int {
	n := len(f) - 1
	most := math.MinInt
	for i := 1; i <= n; i++ {
		if c := f[n-i]; c.Sign() != 0 {
			most = max(most, up(whole.BitLen(c)-whole.BitLen(f[n])+1, i)+1)
		}
	}
	if most == math.MinInt {
		return 0
	}
	return most
}

// open tells which roots c has; or it answers cells, the last one first, that have those that are still to be told.
func (s *search) open(c cell) []cell {
	if !s.wanted(c.at, c.k) {
		return nil
	}
	if !c.told && c.bs[0].Sign() == 0 {
		s.rs = append(s.rs, &Root{f: s.f, at: c.at, k: c.k, here: true, leap: 1})
	}
	if c.changes == 0 {
		return nil
	}
	if c.changes == 1 {
		s.rs = append(s.rs, &Root{f: s.f, at: c.at, k: c.k, from: firstSign(c.bs), leap: 1})
		return nil
	}
	if c.leap >= leastLeap {
		if d, is := s.jump(c); is {
			return []cell{d}
		}
		c.leap, c.barred = c.leap/2, c.k+c.leap
	}
	low, high := c.halves()
	return []cell{high, low}
}

// cell is the one from at over 2^k on.
func (s *search) cell(at num.Int, k int) cell {
	n := len(s.f) - 1
	bs := spread(s.f, k)
	// The polynomial at x + at.
	for i := range n {
		for j := n - 1; j >= i; j-- {
			bs[j] = bs[j].Add(bs[j+1].Mul(at))
		}
	}
	// Its coefficients over C(n, j), and of them bs[i] the sum of all, each C(i, j) times.
	for j, w := range s.weights {
		bs[j] = bs[j].Mul(w)
	}
	for i := range n {
		for j := n; j > i; j-- {
			bs[j] = bs[j].Add(bs[j-1])
		}
	}
	return cell{at: at, k: k, bs: bs, changes: changes(bs)}
}

// spread is the coefficients of f at x over 2^k, times a power of 2 that makes integers of them.
func spread(f []num.Int, k int) []num.Int {
	cs, unit, power := make([]num.Int, len(f)), whole.TwoTo(max(k, -k)), num.Of(1)
	for i := range cs {
		j := i
		if k > 0 {
			j = len(f) - 1 - i
		}
		cs[j] = f[j].Mul(power)
		power = power.Mul(unit)
	}
	return cs
}

// weights is, for each i from 0 to n, the least common multiple of all C(n, j), over C(n, i).
func weights(n int) []num.Int {
	row, all := make([]num.Int, n+1), num.Of(1)
	for i := range row {
		row[i] = num.Of(1)
		if i > 0 {
			row[i] = whole.Floor(row[i-1].Mul(num.Of(n-i+1)), num.Of(i))
		}
		all = all.Mul(whole.Floor(row[i], num.Gcd(all, row[i])))
	}
	for i, c := range row {
		row[i] = whole.Floor(all, c)
	}
	return row
}

// changes is how often a number has another sign than the one ahead of it, 0s left away.
func changes(l []num.Int) int {
	n, last := 0, 0
	for _, a := range l {
		s := a.Sign()
		if s*last < 0 {
			n++
		}
		if s != 0 {
			last = s
		}
	}
	return n
}

// firstSign is the sign of the first number that is not 0; there is one.
func firstSign(l []num.Int) int {
	i := 0
	for l[i].Sign() == 0 {
		i++
	}
	return l[i].Sign()
}

// halves is both halves of c (de Casteljau's way: from each number and the next one to their sum, again and again).
func (c cell) halves() (low, high cell) {
	n := len(c.bs) - 1
	sums, left, right := make([]num.Int, n+1), make([]num.Int, n+1), make([]num.Int, n+1)
	copy(sums, c.bs)
	for i := range n + 1 {
		times := whole.TwoTo(n - i)
		left[i], right[n-i] = sums[0].Mul(times), sums[n-i].Mul(times)
		for j := range n - i {
			sums[j] = sums[j].Add(sums[j+1])
		}
	}
	at := c.at.Add(c.at)
	low = cell{at: at, k: c.k + 1, bs: left, changes: changes(left), told: true}
	high = cell{at: next(at), k: c.k + 1, bs: right, changes: changes(right)}
	low.follow(c, c.leap+1)
	high.follow(c, c.leap+1)
	return low, high
}

// follow makes a part of c ready for the next leap, if no change is lost in it: the leap is to go so many bits, but
// only half the way to where one failed.
func (d *cell) follow(c cell, leap int) {
	if d.changes != c.changes {
		return
	}
	d.leap, d.barred = leap, c.barred
	if d.k < d.barred {
		d.leap = min(leap, (d.barred-d.k)/2)
	}
}

// jump is a much smaller cell in c, if one is found of which it is seen that all roots between c's ends are between
// its own: where it has as many changes, c has none beside it. (To roots that are close together Newton's way leads,
// if it goes for so many of them at once. So it takes few leaps, and not as many halves as bits, to get there:
// Sagraloff's way.)
func (s *search) jump(c cell) (cell, bool) {
	times := whole.TwoTo(c.leap)
	for _, j := range c.guesses(times) {
		d := s.cell(c.at.Mul(times).Add(j), c.k+c.leap)
		if d.changes == c.changes {
			d.told = true
			d.follow(c, 2*c.leap)
			return d, true
		}
	}
	return cell{}, false
}

// guesses is in which of so many parts of c all of its roots may be, counted from 0 on: those to which Newton's way
// leads from both ends.
func (c cell) guesses(times num.Int) []num.Int {
	n, last := len(c.bs)-1, times.Sub(num.Of(1))
	// From an end it goes as far as f is over its slope there, times the number of roots; but not out of c.
	way := func(end, beside num.Int) num.Int {
		j := whole.Floor(end.Mul(times).Mul(num.Of(c.changes)), end.Sub(beside).Mul(num.Of(n)))
		if j.Sign() < 0 {
			return num.Of(0)
		}
		if j.Cmp(last) > 0 {
			return last
		}
		return j
	}
	a, b := way(c.bs[0], c.bs[1]), last.Sub(way(c.bs[n], c.bs[n-1]))
	if a.Cmp(b) == 0 {
		return []num.Int{a}
	}
	return []num.Int{a, b}
}
