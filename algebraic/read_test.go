package algebraic

import (
	"testing"

	"radicand/api"
)

// A reader answers of each number what one that has read nothing answers, whatever it has read.
func TestReadAgain(t *testing.T) {
	two := alg("-2 0 1", 1)
	r := NewReader()
	for _, c := range []struct {
		a      api.Alg
		wanted api.Fault
	}{
		{two, none}, {alg("-2 0 1", 0), none}, {alg("-2 0 1", 2), fault(api.ErrRange, 0)}, {two, none}, {alg("-2 0 1", -1), fault(api.ErrRange, 0)}, {alg("-2 0 1", 1), none},
		// What stands there is one text, but none that is one polynomial.
		{api.Alg{F: []string{"-2 0 1"}, K: 1}, fault(api.ErrText, 0)}, {api.Alg{F: []string{"-2 0", "1"}, K: 1}, fault(api.ErrText, 0)}, {api.Alg{F: []string{"-2", "0 1"}, K: 1}, fault(api.ErrText, 1)},
		{alg("-2 0 1 0", 1), fault(api.ErrForm, 3)}, {alg("-4 0 1", 0), fault(api.ErrForm, 0)}, {alg("-4 0 1", 0), fault(api.ErrForm, 0)}, {alg("-4 0 2", 0), fault(api.ErrForm, 0)},
		{alg("1 0 1", 0), fault(api.ErrRange, 0)}, {alg("1 0 1", 0), fault(api.ErrRange, 0)}, {alg("0 1", 0), none}, {alg("0 1", 1), fault(api.ErrRange, 0)}, {alg("-3 0 1", 1), none},
		{api.Alg{}, fault(api.ErrForm, 0)}, {api.Alg{}, fault(api.ErrForm, 0)}, {api.Alg{F: []string{""}}, fault(api.ErrText, 0)}, {two, none},
	} {
		for _, reader := range []*Reader{r, NewReader()} {
			x, f := reader.Read(c.a)
			want(t, "fault of "+told(c.a), f, c.wanted)
			if f == none {
				want(t, "number", told(x.Told()), told(c.a))
			}
		}
	}
}

// Numbers that are read together, and apart: of one polynomial, and of several.
func TestCmp(t *testing.T) {
	rising := []api.Alg{alg("-3 0 1", 0), alg("3 2", 0), alg("-2 0 1", 0), alg("1 1", 0), alg("0 1", 0), alg("1 0 -10 0 1", 2), alg("-1 3", 0), alg("-2 0 0 1", 0),
		alg("-2 0 1", 1), alg("-3 2", 0), alg("-3 0 1", 1), alg("1 0 -10 0 1", 3)}
	r := NewReader()
	for i, a := range rising {
		for j, b := range rising {
			wanted := min(max(i-j, -1), 1)
			x, _ := r.Read(a)
			y, _ := r.Read(b)
			want(t, told(a)+" and "+told(b), x.Cmp(y), wanted)
			y, _ = NewReader().Read(b)
			want(t, told(a)+" and, apart, "+told(b), x.Cmp(y), wanted)
		}
	}
}
