package ball

import (
	"math"

	"radicand/num"
	"radicand/whole"
)

// A leap of fewer bits gains less than it takes.
const leastLeap = 4

// A Cell is a part of the line: from at over 2^e to at + size over 2^e, and a polynomial there: the sum of bs[i] times
// C(n, i) x^i (1 - x)^(n - i), where x goes from 0 to 1 and n is its degree (Bernstein's way), times a number above 0.
// No one of bs is off by more than off; the sign of the first and of the last one is sure. Between its ends it has no
// more roots than bs changes its sign, and as many, if that is 0 or 1.
type Cell struct {
	at, size num.Int
	e        int // may be below 0
	bs       []num.Int
	off      num.Int
	changes  int // -1, if that is not sure
	leap     int // the bits of the next leap
	barred   int // the e to which the last leap was to go that failed
}

// Cells is, rising, one cell for each real root of the polynomial, with no other root in it, and true; nothing and
// false, if the balls are not small enough to tell. The polynomial has no square of a real root, or false is told.
func Cells(cs []Ball) ([]Cell, bool) {
	all, ok := widestCell(cs)
	if !ok {
		return nil, false
	}
	var told []Cell
	for todo := []Cell{all}; len(todo) > 0; {
		last := len(todo) - 1
		c := todo[last]
		todo = todo[:last]
		switch c.roots() {
		case 0:
		case 1:
			told = append(told, c)
		default:
			parts, ok := c.open()
			if !ok {
				return nil, false
			}
			todo = append(todo, parts...)
		}
	}
	return told, true
}

// open is cells, the last one first, in which all roots are that are in c, and true; nothing and false, if the balls are
// not small enough.
func (c *Cell) open() ([]Cell, bool) {
	if c.leap >= leastLeap {
		if d, is := c.jump(); is {
			return []Cell{d}, true
		}
		c.leap, c.barred = c.leap/2, c.e+c.leap
	}
	low, high, ok := c.split()
	if !ok {
		return nil, false
	}
	return []Cell{high, low}, true
}

// Narrower is a part of c, in which there is one root, that has it; false, if there is none.
func (c *Cell) Narrower() (Cell, bool) {
	parts, ok := c.open()
	if !ok {
		return Cell{}, false
	}
	for _, d := range parts[1:] {
		if d.bs[0].Sign() != d.bs[len(d.bs)-1].Sign() {
			return d, true
		}
	}
	return parts[0], true
}

// widestCell is one in which all real roots are, of each polynomial that is in the balls: so the signs at its ends are
// sure. It is refused, if the last coefficient may be 0.
func widestCell(cs []Ball) (Cell, bool) {
	n := len(cs) - 1
	if cs[n].Sign() == 0 {
		return Cell{}, false
	}
	b := Bound(cs)
	c := Cell{at: num.Of(-1), size: num.Of(2), e: -b, bs: make([]num.Int, n+1)}
	// The polynomial at 2^b (x - 1), times a power of 2 that makes integers of the coefficients.
	for i, a := range cs {
		times := whole.TwoTo(max(b, 0)*i + max(-b, 0)*(n-i))
		c.bs[i] = a.mid.Mul(times)
		c.off = c.off.Add(a.rad.Mul(times))
	}
	for i := range n {
		for j := n - 1; j >= i; j-- {
			c.bs[j] = c.bs[j].Sub(c.bs[j+1])
		}
	}
	c.spread()
	c.count()
	return c, true
}

// spread makes of the coefficients of a polynomial at x those of Bernstein's way at 2 x. What the coefficients of the
// powers of x - 1 are off by makes each of them off by no more than the sum: for each power they are from -1 to 1.
func (c *Cell) spread() {
	n := len(c.bs) - 1
	row, all := binomials(n)
	for j := range c.bs {
		c.bs[j] = c.bs[j].Mul(whole.TwoTo(j)).Mul(whole.Floor(all, row[j]))
	}
	c.off = c.off.Mul(all)
	for i := range n {
		for j := n; j > i; j-- {
			c.bs[j] = c.bs[j].Add(c.bs[j-1])
		}
	}
}

// binomials is all C(n, j), and their least common multiple.
func binomials(n int) (row []num.Int, all num.Int) {
	row, all = make([]num.Int, n+1), num.Of(1)
	for i := range row {
		row[i] = num.Of(1)
		if i > 0 {
			row[i] = whole.Floor(row[i-1].Mul(num.Of(n-i+1)), num.Of(i))
		}
		all = all.Mul(whole.Floor(row[i], num.Gcd(all, row[i])))
	}
	return row, all
}

// Bound is a b for which all roots are between -2^b and 2^b (Fujiwara's); 0, if the last coefficient may be 0.
func Bound(cs []Ball) int {
	n := len(cs) - 1
	if cs[n].Sign() == 0 {
		return 0
	}
	lead := whole.BitLen(cs[n].least())
	most := math.MinInt
	for i := 1; i <= n; i++ {
		if c := cs[n-i].most(); c.Sign() != 0 {
			most = max(most, up(whole.BitLen(c)-lead+1, i)+1)
		}
	}
	if most == math.MinInt {
		return 0
	}
	return most
}

// up is the least integer that is not below a divided by b, which is above 0.
func up(a, b int) int {
	q := a / b
	if a%b > 0 {
		q++
	}
	return q
}

// sure tells whether the sign of bs[i] is.
func (c *Cell) sure(i int) bool { return whole.Size(c.bs[i]).Cmp(c.off) > 0 }

// known tells whether the sign of bs[i] is sure. Those of the ends are, also if off has grown since that was seen: what
// stands there stays as it is.
func (c *Cell) known(i int) bool { return i == 0 || i == len(c.bs)-1 || c.sure(i) }

// count looks how often bs changes its sign.
func (c *Cell) count() {
	c.changes = 0
	for i, b := range c.bs {
		if !c.known(i) {
			c.changes = -1
			return
		}
		if i > 0 && b.Sign() != c.bs[i-1].Sign() {
			c.changes++
		}
	}
}

// roots is 0 or 1, if there are surely no roots in c, or one; 2, if there may be more.
func (c *Cell) roots() int {
	if c.changes >= 0 {
		return min(c.changes, 2)
	}
	// There is one, whatever sign the only number has of which it is not sure, if it stands where the sign changes.
	n := len(c.bs) - 1
	i, j := 0, n
	for c.known(i+1) && c.bs[i+1].Sign() == c.bs[0].Sign() {
		i++
	}
	for c.known(j-1) && c.bs[j-1].Sign() == c.bs[n].Sign() {
		j--
	}
	if c.bs[0].Sign() != c.bs[n].Sign() && j == i+2 {
		return 1
	}
	return 2
}

// split is both parts of c, cut near its middle where the polynomial is surely not 0, and true; if no such place is
// found, false. As there are more places than it may have roots, one is found if the balls are small enough.
func (c *Cell) split() (low, high Cell, ok bool) {
	n := len(c.bs) - 1
	if low, high = c.cut(1, 1); low.sure(n) {
		return low, high, true
	}
	s := 3
	for 1<<s < 4*n {
		s++
	}
	middle := 1 << (s - 1)
	for i := 1; i <= n; i++ {
		// One more, one less, two more ..
		u := middle + (i+1)/2
		if i%2 == 0 {
			u = middle - i/2
		}
		if low, high = c.cut(u, s); low.sure(n) {
			return low, high, true
		}
	}
	return Cell{}, Cell{}, false
}

// cut is both parts of c, the first one being u 2^s-ths of it.
func (c *Cell) cut(u, s int) (low, high Cell) {
	parts, there, rest := num.Of(1<<s), num.Of(u), num.Of(1<<s-u)
	left, right, off := c.halves(there, parts)
	at, size := c.at.Mul(parts), c.size.Mul(there)
	low = Cell{at: at, size: size, e: c.e + s, bs: left, off: off}
	high = Cell{at: at.Add(size), size: c.size.Mul(rest), e: c.e + s, bs: right, off: off}
	low.follow(c, c.leap+1)
	high.follow(c, c.leap+1)
	return low, high
}

// halves is what bs is in both parts of c, the first one being a over b of it, and what that is off by (de Casteljau's
// way: from each number and the next one to what stands so between them, again and again).
func (c *Cell) halves(a, b num.Int) (left, right []num.Int, off num.Int) {
	n, rest := len(c.bs)-1, b.Sub(a)
	same := a.Cmp(rest) == 0
	between := func(x, y num.Int) num.Int {
		if same {
			return whole.Floor(x.Add(y), num.Of(2))
		}
		return whole.Floor(x.Mul(rest).Add(y.Mul(a)), b)
	}
	bs := append([]num.Int(nil), c.bs...)
	left, right = make([]num.Int, n+1), make([]num.Int, n+1)
	for i := range n + 1 {
		left[i], right[n-i] = bs[0], bs[n-i]
		for j := range n - i {
			bs[j] = between(bs[j], bs[j+1])
		}
	}
	// Each of n times it is rounded.
	return left, right, c.off.Add(num.Of(n))
}

// follow counts the changes in a part of c and makes it ready for the next leap, if none of them is lost in it: the leap
// is to go so many bits, but only half the way to where one failed.
func (d *Cell) follow(c *Cell, leap int) {
	d.count()
	if d.changes != c.changes || c.changes < 0 {
		return
	}
	d.leap, d.barred = leap, c.barred
	if d.e < d.barred {
		d.leap = min(leap, (d.barred-d.e)/2)
	}
}

// jump is a much smaller cell in c, if one is found of which it is seen that all roots between c's ends are between its
// own: where it has as many changes, c has none beside it. (To roots that are close together Newton's way leads, if it
// goes for so many of them at once: Sagraloff's way.)
func (c *Cell) jump() (Cell, bool) {
	times := whole.TwoTo(c.leap)
	for _, j := range c.guesses(times) {
		if d := c.part(j, times); d.changes == c.changes {
			return d, true
		}
	}
	return Cell{}, false
}

// part is the part number j of so many of c.
func (c *Cell) part(j, times num.Int) Cell {
	behind := next(j)
	d := Cell{at: c.at.Mul(times).Add(c.size.Mul(j)), size: c.size, e: c.e + c.leap}
	low := Cell{}
	low.bs, _, low.off = c.halves(behind, times)
	_, d.bs, d.off = low.halves(j, behind)
	d.follow(c, 2*c.leap)
	if !d.sure(0) || !d.sure(len(d.bs)-1) {
		d.changes = -1
	}
	return d
}

// guesses is in which of so many parts of c all of its roots may be, counted from 0 on: those to which Newton's way
// leads from both ends.
func (c *Cell) guesses(times num.Int) []num.Int {
	n, last := len(c.bs)-1, times.Sub(num.Of(1))
	// From an end it goes as far as the polynomial is over its slope there, times the number of roots; but not out of c.
	way := func(end, beside num.Int) num.Int {
		j := whole.Floor(end.Mul(times).Mul(num.Of(c.changes)), end.Sub(beside).Mul(num.Of(n)))
		if j.Sign() < 0 {
			return num.Of(0)
		}
		if j.Cmp(last) > 0 {
			return last
		}
		return j
	}
	a, b := way(c.bs[0], c.bs[1]), last.Sub(way(c.bs[n], c.bs[n-1]))
	if a.Cmp(b) == 0 {
		return []num.Int{a}
	}
	return []num.Int{a, b}
}

// Span is where c is.
func (c *Cell) Span() Span {
	s := Span{c.at, c.at.Add(c.size), c.e}
	if c.e < 0 {
		return s.Finer(0)
	}
	return s
}
