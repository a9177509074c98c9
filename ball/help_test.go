package ball

import (
	"fmt"
	"math/big"
	"testing"

	"radicand/num"
)

// want is a failure, if what is told is not what is wanted.
func want[T comparable](t *testing.T, what string, got, wanted T) {
	t.Helper()
	if got != wanted {
		t.Fatalf("%s: got %v, want %v", short(what), short(fmt.Sprint(got)), short(fmt.Sprint(wanted)))
	}
}

func short(s string) string {
	if len(s) > 300 {
		return s[:300] + ".."
	}
	return s
}

// A draw gives numbers, the same ones each time.
type draw struct{ state uint64 }

func (d *draw) below(n int) int {
	d.state += 0x9e3779b97f4a7c15
	z := d.state
	z = (z ^ z>>30) * 0xbf58476d1ce4e5b9
	z = (z ^ z>>27) * 0x94d049bb133111eb
	return int((z ^ z>>31) % uint64(n))
}

func toBig(a num.Int) *big.Int {
	b, _ := new(big.Int).SetString(a.Text(), 10)
	return b
}

func fromBig(b *big.Int) num.Int {
	low := new(big.Int).And(new(big.Int).Abs(b), big.NewInt(1<<60-1))
	a := num.Of(int(low.Int64()))
	if b.BitLen() > 60 {
		a = a.Add(fromBig(new(big.Int).Rsh(new(big.Int).Abs(b), 60)).Mul(num.Of(1 << 60)))
	}
	if b.Sign() < 0 {
		return a.Neg()
	}
	return a
}

func floor(x *big.Rat) *big.Int {
	return new(big.Int).Div(x.Num(), x.Denom())
}

// parts is a over 2^bits.
func parts(a num.Int, bits int) *big.Rat {
	return new(big.Rat).SetFrac(toBig(a), new(big.Int).Lsh(big.NewInt(1), uint(bits)))
}

// frac is a fraction, 0 and small ones more often.
func (d *draw) frac() *big.Rat {
	a := int64(d.below(2001) - 1000)
	if d.below(4) == 0 {
		a = int64(d.below(5) - 2)
	}
	x := big.NewRat(a, int64(1+d.below(60)))
	if d.below(6) == 0 {
		x.Mul(x, big.NewRat(1<<40, 3))
	}
	if d.below(6) == 0 {
		x.Mul(x, big.NewRat(3, 1<<40))
	}
	return x
}

// around is a ball in which x is, its middle somewhere in it, up to 2^wide parts from its ends.
func (d *draw) around(r Rule, x *big.Rat, wide int) Ball {
	unit := new(big.Rat).SetInt(toBig(r.unit))
	mid := floor(new(big.Rat).Mul(x, unit))
	off := int64(d.below(1 << wide))
	if d.below(2) == 0 {
		off = -off
	}
	mid.Add(mid, big.NewInt(off))
	rad := off
	if rad < 0 {
		rad = -rad
	}
	return Ball{fromBig(mid), fromBig(big.NewInt(rad + 1 + int64(d.below(2))))}
}

// has: is x in a?
func (r Rule) has(a Ball, x *big.Rat) bool {
	off := new(big.Rat).Sub(x, parts(a.mid, r.bits))
	return off.Abs(off).Cmp(parts(a.rad, r.bits)) <= 0
}

func wantIn(t *testing.T, what string, r Rule, a Ball, x *big.Rat) {
	t.Helper()
	if !r.has(a, x) {
		t.Fatalf("%s: %s is not in %s, %s of 2^%d", what, short(x.String()), short(a.mid.Text()), short(a.rad.Text()), r.bits)
	}
}
