package minors

import (
	"math"
	"slices"

	"radicand/api"
	"radicand/num"
	"radicand/terms"
)

// A grid is the points at which the other variables are 0, 1, 2 ..: as many of each as tell the determinants of a pair
// by their values there.
type grid struct {
	pair
	ks    []num.Int // the coefficients of all terms
	folds []fold    // for each variable that stands in the pair, rising
	slots []int     // behind the folds: which coefficient of a, or behind them of b, a number is
}

// A fold is what becomes of numbers that stand at terms, when a variable is put in: number i, times the variable to
// the by[i], is put to number to[i].
type fold struct {
	v    int
	a, b int // the degrees of both in v
	to   []int
	by   []int
	many int // how many numbers there are then
}

// A place is where terms stand: in which coefficient of a, or behind them of b, and with which exponents.
type place struct {
	slot int
	e    terms.Power
}

func gridOf(x pair) *grid {
	g := &grid{pair: x}
	var places []place
	for i, c := range slices.Concat(x.a, x.b) {
		for e, k := range c.Each {
			above, _ := k.Parts()
			g.ks = append(g.ks, above)
			places = append(places, place{i, e})
		}
	}
	for v := range api.MaxVars {
		f := fold{v: v, a: highest(x.a, v), b: highest(x.b, v)}
		if f.a+f.b > 0 {
			places = f.gather(places)
			g.folds = append(g.folds, f)
		}
	}
	for _, p := range places {
		g.slots = append(g.slots, p.slot)
	}
	return g
}

// highest is the degree of the coefficients in variable v.
func highest(cs []terms.Poly, v int) int {
	d := 0
	for _, c := range cs {
		d = max(d, c.Degree(v))
	}
	return d
}

// gather makes the fold of the places, and tells those that there are then.
func (f *fold) gather(places []place) []place {
	var left []place
	at := map[place]int{}
	for _, p := range places {
		f.by = append(f.by, p.e[f.v])
		p.e[f.v] = 0
		i, is := at[p]
		if !is {
			i = len(left)
			at[p] = i
			left = append(left, p)
		}
		f.to = append(f.to, i)
	}
	f.many = len(left)
	return left
}

// size is how many values of the fold's variable tell the determinant number j: one more than its degree can be.
func (g *grid) size(f fold, j int) int {
	p, q := g.degrees()
	return (q-j)*f.a + (p-j)*f.b + 1
}

// volume is how many points tell the determinant number j.
func (g *grid) volume(j int) int {
	n := 1
	for _, f := range g.folds {
		n *= g.size(f, j)
	}
	return n
}

// primes is how many primes tell the determinant number j: their product is above twice each coefficient of it. None is
// above what the determinant can be where all variables are complex numbers of size 1, and so none is above the product
// of the lengths of its rows there (Hadamard's).
func (g *grid) primes(j int) int {
	p, q := g.degrees()
	square := raise(length(g.a), q-j).Mul(raise(length(g.b), p-j)).Mul(num.Of(4))
	// Each prime is above 2^62.
	least := num.Of(1 << 62)
	least = least.Mul(least)
	n, product := 1, least
	for product.Cmp(square) < 0 {
		n, product = n+1, product.Mul(least)
	}
	return n
}

// length is the square of a number that the length of a row with these coefficients is not above, where all variables
// are of size 1.
func length(cs []terms.Poly) num.Int {
	var square num.Int
	for _, c := range cs {
		var size num.Int
		for _, k := range c.Each {
			above, _ := k.Parts()
			size = size.Add(above.Mul(num.Of(above.Sign())))
		}
		square = square.Add(size.Mul(size))
	}
	return square
}

func raise(x num.Int, n int) num.Int {
	p := num.Of(1)
	for range n {
		p = p.Mul(x)
	}
	return p
}

const (
	mostValues = 1 << 26 // there is no room for more
	division   = 150     // as long as so many products modulo a prime a division takes
	product    = 40      // and a product of terms with short coefficients
)

// steps is about how many products of terms take as long as this way; without end, if there is no room for it.
func (g *grid) steps() int {
	p, q := g.degrees()
	numbers, primes, points := g.most+1-g.least, g.primes(g.least), g.volume(g.least)
	if points > mostValues/numbers/primes {
		return math.MaxInt
	}
	work := len(g.slots) + (p+1)*(q+1) + division*(min(p, q)+1)
	for _, f := range g.folds {
		work += g.size(f, g.least) * numbers / 2
	}
	// A coefficient of a or b is as long as so many primes, and one of a determinant on the way as half of them.
	long := primes / (p + q + 1)
	return points * primes * work / (product + long*primes/2)
}
