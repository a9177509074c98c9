package algebraic

import (
	"strings"
	"testing"

	"radicand/api"
	"radicand/num"
	"radicand/poly"
)

// want is a failure, if what is told is not what is wanted.
func want[T comparable](t *testing.T, what string, got, wanted T) {
	t.Helper()
	if got != wanted {
		t.Fatalf("%s: got %v, want %v", what, got, wanted)
	}
}

var none = api.Fault{}

func fault(code, at int) api.Fault { return api.Fault{Code: code, At: at} }

// of is the polynomial with these coefficients, the lowest first.
func of(cs ...int) poly.Poly {
	xs := make([]num.Frac, len(cs))
	for i, c := range cs {
		xs[i] = num.Whole(num.Of(c))
	}
	return poly.Of(xs...)
}

// alg is the number with these coefficients, as texts with spaces between, and that K.
func alg(text string, k int) api.Alg { return api.Alg{F: strings.Fields(text), K: k} }

// told is a number as text.
func told(a api.Alg) string { return strings.Join(a.F, " ") + " K " + num.Of(a.K).Text() }
