package residue

import "slices"

// Minors is the principal subresultant coefficients number 0, 1, .. of two lists of coefficients, up to the lesser of
// the degrees that the lists have room for. No list is empty; unlike those of polynomials their last numbers may be 0.
func (f Field) Minors(a, b []uint64) []uint64 {
	m := minors{Field: f, told: make([]uint64, min(len(a), len(b))), by: [2]uint64{f.one, f.one}}
	a, b = slices.Clone(a), slices.Clone(b)
	if b[len(b)-1] == 0 {
		m.swap(len(a)-1, len(b)-1)
		a, b = b, a
	}
	for len(b) > 0 {
		a, b = b, m.step(a, b)
	}
	return m.told
}

// Minors in the making: of two polynomials on the way (Euclid's) number j is to be multiplied by one of by, as j is
// even or odd.
type minors struct {
	Field
	told []uint64
	by   [2]uint64
}

// swap is for what changes places in the determinants, when polynomials of degrees p and q do: number j has q - j rows
// of the first ahead of p - j of the second.
func (m *minors) swap(p, q int) {
	for j := range m.by {
		if (p-j)*(q-j)%2 != 0 {
			m.by[j] = m.sub(0, m.by[j])
		}
	}
}

// step tells the number that is the lesser of the degrees p and q, and what is left of a divided by b: with it behind b
// the determinants go on. Those of a number above its degree are 0, and stay it.
func (m *minors) step(a, b []uint64) []uint64 {
	p, q := len(a)-1, len(b)-1
	j, last := q, m.pow(b[q], max(0, p-q))
	if p < q {
		j, last = p, m.pow(a[p], q-p)
	}
	m.told[j] = m.mul(m.by[j%2], last)
	if b[q] == 0 {
		return nil
	}
	lead := b[q]
	_, rest := m.divide(a, b)
	rest = trimmed(rest)
	// The rows of a may be rows of the rest, as those of b are below them; and what the rest has less in its degree
	// leaves the lead of b on the diagonal.
	m.swap(p, q)
	lost := m.pow(lead, p-(len(rest)-1))
	for j := range m.by {
		m.by[j] = m.mul(m.by[j], lost)
	}
	return rest
}

// trimmed is l without the last numbers that are 0.
func trimmed(l []uint64) []uint64 {
	for len(l) > 0 && l[len(l)-1] == 0 {
		l = l[:len(l)-1]
	}
	return l
}
