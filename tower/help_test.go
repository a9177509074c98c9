package tower

import (
	"fmt"
	"strconv"
	"strings"
	"testing"

	"radicand/num"
	"radicand/terms"
)

// want is a failure, if what is told is not what is wanted.
func want[T comparable](t *testing.T, what string, got, wanted T) {
	t.Helper()
	if got != wanted {
		t.Fatalf("%s: got %v, want %v", short(what), short(fmt.Sprint(got)), short(fmt.Sprint(wanted)))
	}
}

func short(s string) string {
	if len(s) > 300 {
		return s[:300] + ".."
	}
	return s
}

// read reads terms with commas between: each its coefficient and its exponents.
func read(text string) terms.Poly {
	var p terms.Poly
	for s := range strings.SplitSeq(text, ",") {
		words := strings.Fields(s)
		if len(words) == 0 {
			continue
		}
		c, f := num.ParseFrac(words[0])
		if f.Code != 0 {
			panic(text)
		}
		var e terms.Power
		for v, w := range words[1:] {
			n, err := strconv.Atoi(w)
			if err != nil {
				panic(err)
			}
			e[v] = n
		}
		p = p.Add(terms.Single(c, e))
	}
	return p
}

// made is the point of which each coordinate is a real root, from 0 on, of a polynomial: "K: terms; K: terms".
func made(t *testing.T, text string) Point {
	t.Helper()
	var pt Point
	for s := range strings.SplitSeq(text, ";") {
		k, p, _ := strings.Cut(s, ":")
		n, err := strconv.Atoi(strings.TrimSpace(k))
		if err != nil {
			t.Fatal(err)
		}
		rs, zero := pt.Roots(read(p))
		if zero || n >= len(rs) {
			t.Fatal("no root: ", s)
		}
		pt = pt.With(rs[n])
	}
	return pt
}

// A draw gives numbers, the same ones each time.
type draw struct{ state uint64 }

func (d *draw) below(n int) int {
	d.state += 0x9e3779b97f4a7c15
	z := d.state
	z = (z ^ z>>30) * 0xbf58476d1ce4e5b9
	z = (z ^ z>>27) * 0x94d049bb133111eb
	return int((z ^ z>>31) % uint64(n))
}

// poly has so many terms in n variables, with exponents up to most.
func (d *draw) poly(n, many, most, size int) terms.Poly {
	return terms.Total(many, func(int) terms.Poly {
		var e terms.Power
		for v := range n {
			e[v] = d.below(most + 1)
		}
		return terms.Single(num.Whole(num.Of(d.below(2*size+1)-size)), e)
	})
}

// point is one of up to n coordinates.
func (d *draw) point(n int) Point {
	var pt Point
	for tries := 0; len(pt) < n && tries < 50; tries++ {
		k := len(pt)
		p := d.poly(k+1, 4, 2, 5)
		if p.Degree(k) == 0 {
			continue
		}
		if rs, zero := pt.Roots(p); !zero && len(rs) > 0 {
			pt = pt.With(rs[d.below(len(rs))])
		}
	}
	return pt
}
