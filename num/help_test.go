package num

import (
	"math/big"
	"strings"
	"testing"

	"radicand/api"
)

// want is a failure, if what is told is not what is wanted.
func want[T comparable](t *testing.T, what string, got, wanted T) {
	t.Helper()
	if got != wanted {
		t.Errorf("%s: got %v, want %v", short80(what), got, wanted)
	}
}

func short80(s string) string {
	if len(s) > 80 {
		return s[:80] + ".."
	}
	return s
}

func fault(code, at int) api.Fault { return api.Fault{Code: code, At: at} }

// number reads a number that the test takes to be one.
func number(t *testing.T, text string) Int {
	t.Helper()
	a, f := Parse(text)
	if f != fault(0, 0) {
		t.Fatalf("%s: no number: %v", short80(text), f)
	}
	return a
}

func fraction(t *testing.T, text string) Frac {
	t.Helper()
	x, f := ParseFrac(text)
	if f != fault(0, 0) {
		t.Fatalf("%s: no fraction: %v", short80(text), f)
	}
	return x
}

// fromBig is the number that math/big has.
func fromBig(b *big.Int) Int {
	var w []uint64
	for _, d := range b.Bits() {
		w = append(w, uint64(d))
	}
	return signed(b.Sign() < 0, front(w, len(w)))
}

// toBig is what math/big takes the words of a number for.
func toBig(a Int) *big.Int {
	var bits []big.Word
	for _, d := range a.magnitude() {
		bits = append(bits, big.Word(d))
	}
	b := new(big.Int).SetBits(bits)
	if a.Sign() < 0 {
		b.Neg(b)
	}
	return b
}

// wantBig is a failure, if a number is not the one that math/big tells, or not kept as all its equals are.
func wantBig(t *testing.T, what string, got Int, wanted *big.Int) {
	t.Helper()
	if toBig(got).Cmp(wanted) != 0 {
		t.Fatalf("%s: got %s, want %s", what, short80(toBig(got).String()), short80(wanted.String()))
	}
	n := len(got.wide)
	if (got.wide == nil) != wanted.IsInt64() || n > 0 && (got.wide[n-1] == 0 || cap(got.wide) != n || got.small != wanted.Sign()) {
		t.Fatalf("%s: not in its form: %s", what, short80(wanted.String()))
	}
}

// A draw gives numbers, the same ones each time, many of them with long runs of like bits.
type draw struct{ state uint64 }

func (d *draw) next() uint64 {
	d.state += 0x9e3779b97f4a7c15
	z := d.state
	z = (z ^ z>>30) * 0xbf58476d1ce4e5b9
	z = (z ^ z>>27) * 0x94d049bb133111eb
	return z ^ z>>31
}

func (d *draw) below(n int) int { return int(d.next() % uint64(n)) }

var ends = []string{"0", "1", "-1", "2", "-2", "10",
	"4294967295", "4294967296", "-4294967296",
	"9223372036854775806", "9223372036854775807", "9223372036854775808", "9223372036854775809",
	"-9223372036854775807", "-9223372036854775808", "-9223372036854775809",
	"18446744073709551614", "18446744073709551615", "18446744073709551616", "18446744073709551617",
	"-18446744073709551615", "-18446744073709551616",
	"340282366920938463463374607431768211455", "340282366920938463463374607431768211456",
	"-340282366920938463463374607431768211456",
	"10000000000000000000", "99999999999999999999999999999999999999"}

func (d *draw) big(words int) *big.Int {
	if d.below(12) == 0 {
		b, _ := new(big.Int).SetString(ends[d.below(len(ends))], 10)
		return b
	}
	bits := make([]big.Word, 1+d.below(words))
	kind := d.below(4)
	for i := range bits {
		switch {
		case kind == 0:
			bits[i] = 1<<64 - 1
		case kind == 1 && i < len(bits)-1:
			bits[i] = 0
		case kind == 2 && i%3 != 0:
			bits[i] = big.Word(-(d.next() & 1))
		default:
			bits[i] = big.Word(d.next() >> (d.next() % 8 * 8))
		}
	}
	b := new(big.Int).SetBits(bits)
	if d.below(2) == 0 {
		b.Neg(b)
	}
	return b
}

func nines(n int) string { return strings.Repeat("9", n) }
