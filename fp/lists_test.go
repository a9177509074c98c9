package fp

import (
	"slices"
	"testing"

	"radicand/api"
)

// Lists that are handed in are only read and not kept; what is answered is new memory, and no two lists of an answer
// share any.

// wantApart is a failure, if what is written to one of the lists, as far as it can grow, is seen in another.
func wantApart(t *testing.T, what string, lists ...[]int) {
	t.Helper()
	var was [][]int
	for _, l := range lists {
		was = append(was, slices.Clone(l[:cap(l)]))
	}
	for i, l := range lists {
		whole := l[:cap(l)]
		for j := range whole {
			whole[j] = -1 - i
		}
		for j, other := range lists {
			if j != i && !slices.Equal(other[:cap(other)], was[j]) {
				t.Fatalf("%s: the lists %d and %d share memory", what, i, j)
			}
		}
		copy(whole, was[i])
	}
}

// roomy is f with room behind it.
func roomy(f []int) []int { return append(make([]int, 0, len(f)+9), f...) }

func splitLists(l []api.Split) [][]int {
	var lists [][]int
	for _, s := range l {
		lists = append(lists, s.F)
	}
	return lists
}

func TestListsAreOnlyReadAndAnswersNew(t *testing.T) {
	d := draw{10}
	for _, p := range primes() {
		for range 60 {
			f, g := d.nonzero(p, 12), d.nonzero(p, 6)
			if d.below(4) == 0 {
				g = []int{1}
			}
			if d.below(4) == 0 {
				f = plainMul(f, g, p)
			}
			a, b := roomy(f), roomy(g)
			product, _ := Mul(a, b, p)
			wantApart(t, "Mul", a, b, product)
			q, r, _ := Div(a, b, p)
			wantApart(t, "Div", a, b, q, r)
			q, r, _ = Div(b, a, p)
			wantApart(t, "Div", a, b, q, r)
			divisor, _ := Gcd(a, b, p)
			wantApart(t, "Gcd", a, b, divisor)
			divisor, _ = Gcd(a, nil, p)
			wantApart(t, "Gcd", a, b, divisor)
			for n := range 3 {
				power, _ := Power(a, n, b, p)
				wantApart(t, "Power", a, b, power)
				power, _ = Power(b, n, a, p)
				wantApart(t, "Power", a, b, power)
			}
			_, splits, _ := Factor(a, p)
			wantApart(t, "Factor", append(splitLists(splits), a)...)
			roots, _ := Roots(a, p)
			wantApart(t, "Roots", a, roots)
			Irreducible(a, p)
			Check(a, p)
			wantList(t, "what was handed in", a, f)
			wantList(t, "what was handed in", b, g)
		}
		one, _ := Mul([]int{1}, []int{0, 1}, p)
		again, _ := Mul([]int{1}, []int{0, 1}, p)
		wantApart(t, "two answers", one, again)
	}
}

// One list may be handed in twice, and what is answered may be handed in again.
func TestOneListTwice(t *testing.T) {
	for _, p := range primes() {
		f := []int{p - 1, 0, 1}
		g, _ := Mul(f, f, p)
		wantList(t, "square", g, plainMul(f, f, p))
		q, r, _ := Div(f, f, p)
		wantList(t, "quotient", q, []int{1})
		wantList(t, "rest", r, nil)
		g, _ = Gcd(f, f, p)
		wantList(t, "gcd", g, f)
		g, _ = Power(f, 5, f, p)
		wantList(t, "power", g, nil)
		wantList(t, "what was handed in", f, []int{p - 1, 0, 1})
	}
}
