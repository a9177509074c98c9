package residue

import "radicand/num"

// A Lift gathers rows of as many numbers each: what is left of some integers modulo primes, each prime once.
// The zero value has none.
type Lift struct {
	fields  []Field
	rows    [][]uint64
	product num.Int
}

// Add puts what is left modulo f's prime to the rest; it keeps the row.
func (l *Lift) Add(f Field, row []uint64) {
	l.product = l.Product().Mul(f.number())
	l.fields = append(l.fields, f)
	l.rows = append(l.rows, row)
}

// Len is how many primes there are.
func (l *Lift) Len() int { return len(l.rows) }

// Width is how many integers there are.
func (l *Lift) Width() int {
	if len(l.rows) == 0 {
		return 0
	}
	return len(l.rows[0])
}

// Product is the product of the primes.
func (l *Lift) Product() num.Int {
	if len(l.rows) == 0 {
		return num.Of(1)
	}
	return l.product
}

func (f Field) number() num.Int { return num.Of(int(f.prime)) }

// Numbers is the integers of which this is left that are nearest to 0: those that are asked for, if twice each of
// them is, without its sign, below Product.
func (l *Lift) Numbers() []num.Int {
	ns := make([]num.Int, l.Width())
	if len(ns) == 0 {
		return ns
	}
	t, ws := treeOf(l.fields), l.weights()
	digits := make([]uint64, len(ws))
	for k := range ns {
		for i, f := range l.fields {
			digits[i] = f.plain(f.mul(l.rows[i][k], ws[i]))
		}
		_, n, _ := t.sum(digits).Div(l.product)
		if twice := n.Add(n); twice.Cmp(l.product) > 0 {
			n = n.Sub(l.product)
		}
		ns[k] = n
	}
	return ns
}

// weights is, modulo each prime, 1 over the product of all others.
func (l *Lift) weights() []uint64 {
	ws := make([]uint64, len(l.fields))
	for i, f := range l.fields {
		p := f.one
		for j, g := range l.fields {
			if i != j {
				p = f.mul(g.prime, p)
			}
		}
		// Each of the others has taken 2^64 from the product.
		ws[i] = f.inverse(f.mul(p, f.pow(f.shift, len(l.fields)-1)))
	}
	return ws
}

// A tree is the product of some primes, by halves.
type tree struct {
	product   num.Int
	low, high *tree // nil, if it is of one prime
}

func treeOf(fs []Field) *tree {
	if len(fs) == 1 {
		return &tree{product: fs[0].number()}
	}
	h := len(fs) / 2
	t := &tree{low: treeOf(fs[:h]), high: treeOf(fs[h:])}
	t.product = t.low.product.Mul(t.high.product)
	return t
}

// sum is, of all primes together, the digit of each times the product of the others.
func (t *tree) sum(digits []uint64) num.Int {
	if t.low == nil {
		return num.Of(int(digits[0]))
	}
	h := len(digits) / 2
	return t.low.sum(digits[:h]).Mul(t.high.product).Add(t.high.sum(digits[h:]).Mul(t.low.product))
}
