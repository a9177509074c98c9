package whole

import (
	"testing"

	"radicand/num"
)

// want is a failure, if what is told is not what is wanted.
func want[T comparable](t *testing.T, what string, got, wanted T) {
	t.Helper()
	if got != wanted {
		t.Fatalf("%s: got %v, want %v", what, got, wanted)
	}
}

func TestBitLen(t *testing.T) {
	for _, n := range []int{0, 1, 5, 61, 62, 63, 64, 65, 123, 124, 125, 126, 500, 1000, 12345} {
		a := TwoTo(n)
		want(t, "power of 2", BitLen(a), n+1)
		want(t, "its opposite", BitLen(a.Neg()), n+1)
		want(t, "one less", BitLen(a.Sub(num.Of(1))), n)
		want(t, "three times", BitLen(a.Mul(num.Of(3))), n+2)
	}
	want(t, "0", BitLen(num.Int{}), 0)
}

func TestTwoTo(t *testing.T) {
	a := num.Of(1)
	for n := range 400 {
		want(t, "power of 2", TwoTo(n).Text(), a.Text())
		a = a.Add(a)
	}
}

func TestQuotients(t *testing.T) {
	for _, c := range [][4]int{{7, 2, 3, 4}, {-7, 2, -4, -3}, {6, 2, 3, 3}, {-6, 3, -2, -2}, {0, 5, 0, 0}, {1, 5, 0, 1}, {-1, 5, -1, 0}} {
		a, b := num.Of(c[0]), num.Of(c[1])
		want(t, "Floor", Floor(a, b).Text(), num.Of(c[2]).Text())
		want(t, "Floor of opposites", Floor(a.Neg(), b.Neg()).Text(), num.Of(c[2]).Text())
		want(t, "Ceil", Ceil(a, b).Text(), num.Of(c[3]).Text())
	}
	want(t, "Floor by 0", Floor(num.Of(5), num.Int{}).Sign(), 0)
	want(t, "Size", Size(num.Of(-5)).Text(), "5")
	want(t, "Size", Size(TwoTo(100).Neg()).Cmp(TwoTo(100)), 0)
	want(t, "Size", Size(num.Of(5)).Text(), "5")
}
