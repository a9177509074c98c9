package chain

import (
	"math/big"
	"slices"
	"strings"

	"radicand/api"
)

type power = [api.MaxVars]int

// A plain polynomial is told by the coefficient of each power; none is 0.
type plain map[power]*big.Rat

func rat(text string) *big.Rat {
	x, is := new(big.Rat).SetString(text)
	if !is {
		panic(text)
	}
	return x
}

func (p plain) put(e power, c *big.Rat) {
	s := new(big.Rat).Set(c)
	if p[e] != nil {
		s.Add(s, p[e])
	}
	p[e] = s
	if s.Sign() == 0 {
		delete(p, e)
	}
}

func plainOf(l []api.Term) plain {
	p := plain{}
	for _, t := range l {
		var e power
		copy(e[:], t.E)
		p.put(e, rat(t.C))
	}
	return p
}

func plainNumber(n int64) plain {
	p := plain{}
	p.put(power{}, big.NewRat(n, 1))
	return p
}

func (p plain) plus(q plain, sign int64) plain {
	s := plain{}
	for e, c := range p {
		s.put(e, c)
	}
	for e, c := range q {
		s.put(e, new(big.Rat).Mul(c, big.NewRat(sign, 1)))
	}
	return s
}

func (p plain) times(q plain) plain {
	r := plain{}
	for d, a := range p {
		for e, b := range q {
			f := d
			for v := range f {
				f[v] += e[v]
			}
			r.put(f, new(big.Rat).Mul(a, b))
		}
	}
	return r
}

func (p plain) degree(v int) int {
	d := 0
	for e := range p {
		d = max(d, e[v])
	}
	return d
}

// by is the coefficient of variable v to the n.
func (p plain) by(v, n int) plain {
	q := plain{}
	for e, c := range p {
		if e[v] == n {
			e[v] = 0
			q.put(e, c)
		}
	}
	return q
}

func (p plain) derive(v int) plain {
	q := plain{}
	for e, c := range p {
		if n := e[v]; n > 0 {
			e[v]--
			q.put(e, new(big.Rat).Mul(c, big.NewRat(int64(n), 1)))
		}
	}
	return q
}

func (p plain) isNumber() bool {
	for e := range p {
		if e != (power{}) {
			return false
		}
	}
	return true
}

// powers is those of p in their order by Lex.
func (p plain) powers() []power {
	var es []power
	for e := range p {
		es = append(es, e)
	}
	slices.SortFunc(es, func(a, b power) int { return slices.Compare(b[:], a[:]) })
	return es
}

// form is p's form, as told tells it.
func (p plain) form(n int) string {
	var l []api.Term
	for _, e := range p.powers() {
		l = append(l, api.Term{C: p[e].RatString(), E: slices.Clone(e[:n])})
	}
	return told(l)
}

// primitive is p, which is not 0, with integers without a common divisor as coefficients, the first above 0.
func (p plain) primitive() plain {
	below, above := big.NewInt(1), new(big.Int)
	for _, c := range p {
		below.Mul(below, c.Denom())
	}
	for _, c := range p {
		x := new(big.Rat).Mul(c, new(big.Rat).SetInt(below))
		above.GCD(nil, nil, above, new(big.Int).Abs(x.Num()))
	}
	k := new(big.Rat).SetFrac(below, above)
	if p[p.powers()[0]].Sign() < 0 {
		k.Neg(k)
	}
	q := plain{}
	for e, c := range p {
		q.put(e, new(big.Rat).Mul(c, k))
	}
	return q
}

// psc is the determinant number j, by its rows as the chapter words them.
func psc(a, b plain, v, j int) plain {
	p, q := a.degree(v), b.degree(v)
	n := p + q - 2*j
	var rows [][]plain
	put := func(of plain, degree, many int) {
		for i := range many {
			var r []plain
			for range i {
				r = append(r, plain{})
			}
			for k := degree; k >= 0; k-- {
				r = append(r, of.by(v, k))
			}
			for len(r) < n {
				r = append(r, plain{})
			}
			rows = append(rows, r[:n])
		}
	}
	put(a, p, q-j)
	put(b, q, p-j)
	return laplace(rows)
}

// laplace goes along the first row.
func laplace(rows [][]plain) plain {
	if len(rows) == 0 {
		return plainNumber(1)
	}
	sum, sign := plain{}, int64(1)
	for c, x := range rows[0] {
		if len(x) > 0 {
			var rest [][]plain
			for _, r := range rows[1:] {
				rest = append(rest, slices.Concat(r[:c], r[c+1:]))
			}
			sum = sum.plus(x.times(laplace(rest)), sign)
		}
		sign = -sign
	}
	return sum
}

// setOf is the set of polynomials, each once, in the order that the chapter words.
func setOf(ps []plain) []plain {
	var set []plain
	for _, p := range ps {
		if p.isNumber() {
			continue
		}
		p = p.primitive()
		if !slices.ContainsFunc(set, func(q plain) bool { return len(p.plus(q, -1)) == 0 }) {
			set = append(set, p)
		}
	}
	slices.SortFunc(set, func(p, q plain) int {
		if ahead(p, q) {
			return -1
		}
		return 1
	})
	return set
}

// ahead tells whether p stands ahead of q, another one, in a set.
func ahead(p, q plain) bool {
	es, fs := p.powers(), q.powers()
	for i := 0; ; i++ {
		switch {
		case i == len(es):
			return true
		case i == len(fs):
			return false
		case es[i] != fs[i]:
			return slices.Compare(es[i][:], fs[i][:]) > 0
		case p[es[i]].Cmp(q[fs[i]]) != 0:
			return p[es[i]].Cmp(q[fs[i]]) > 0
		}
	}
}

// cuts is the reducta of p.
func cuts(p plain, v int) []plain {
	var all []plain
	for p.degree(v) > 0 {
		all = append(all, p)
		d := p.degree(v)
		lead := p.by(v, d)
		if lead.isNumber() {
			break
		}
		p = p.plus(lead.times(plain{power(slices.Concat(make([]int, v), []int{d}, make([]int, api.MaxVars-v-1))): big.NewRat(1, 1)}), -1)
	}
	return all
}

// shadow is the projection, as the chapter words it.
func shadow(ps []plain, v int) []plain {
	set := setOf(ps)
	var all []plain
	for i, s := range set {
		if s.degree(v) == 0 {
			all = append(all, s)
			continue
		}
		if !s.by(v, s.degree(v)).isNumber() {
			all = append(all, s.by(v, 0))
		}
		for _, r := range cuts(s, v) {
			all = append(all, r.by(v, r.degree(v)))
			for j := range r.degree(v) {
				all = append(all, psc(r, r.derive(v), v, j))
			}
			for _, t := range set[i+1:] {
				for _, u := range cuts(t, v) {
					for j := range min(r.degree(v), u.degree(v)) {
						all = append(all, psc(r, u, v, j))
					}
				}
			}
		}
	}
	return setOf(all)
}

func formAll(ps []plain, n int) string {
	var l []string
	for _, p := range ps {
		l = append(l, p.form(n))
	}
	return strings.Join(l, "; ")
}
