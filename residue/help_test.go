package residue

import (
	"math/big"
	"testing"

	"radicand/num"
)

// want is a failure, if what is told is not what is wanted.
func want[T comparable](t *testing.T, what string, got, wanted T) {
	t.Helper()
	if got != wanted {
		t.Fatalf("%s: got %v, want %v", what, got, wanted)
	}
}

// A draw gives numbers, the same ones each time.
type draw struct{ state uint64 }

func (d *draw) next() uint64 {
	d.state += 0x9e3779b97f4a7c15
	z := d.state
	z = (z ^ z>>30) * 0xbf58476d1ce4e5b9
	z = (z ^ z>>27) * 0x94d049bb133111eb
	return z ^ z>>31
}

func (d *draw) below(n int) int { return int(d.next() % uint64(n)) }

// plain is a number below f's prime, 0, 1 and its ends among them more often.
func (d *draw) plain(f Field) uint64 {
	switch d.below(8) {
	case 0:
		return 0
	case 1:
		return 1
	case 2:
		return f.prime - 1
	}
	return d.next() % f.prime
}

// in is how a plain number stands in f.
func in(f Field, a uint64) uint64 { return f.Of(num.Of(int(a))) }

func toBig(a uint64) *big.Int { return new(big.Int).SetUint64(a) }

// fields is the first fields, and some behind them.
func fields(n int) []Field {
	fs := []Field{First()}
	for len(fs) < n {
		fs = append(fs, fs[len(fs)-1].Next())
	}
	return fs
}
