package residue

import (
	"math/big"
	"testing"

	"radicand/num"
)

func TestPrimesAreAllPrimesBelowTop(t *testing.T) {
	n := new(big.Int).SetUint64(top)
	for i, f := range fields(len(nearest) + 40) {
		for n.Sub(n, big.NewInt(1)); !n.ProbablyPrime(1); n.Sub(n, big.NewInt(1)) {
		}
		want(t, "prime", f.prime, n.Uint64())
		want(t, "rank", f.rank, i)
	}
}

func TestCompositesAreNoPrimes(t *testing.T) {
	big31 := []uint64{2147483647, 2147483629, 2147483587, 3037000493, 3037000453}
	for _, p := range big31 {
		for _, q := range big31 {
			// (Below 2^62 the numbers are short, but the question is the same.)
			want(t, "product", fieldOf(p*q, 0).isPrime(), false)
		}
	}
	for f, n := First(), uint64(0); n < 400; n += 2 {
		m := f.prime - n
		want(t, "neighbour", fieldOf(m, 0).isPrime(), toBig(m).ProbablyPrime(20))
	}
}

func TestFieldReckonsModuloItsPrime(t *testing.T) {
	d := draw{1}
	for _, f := range fields(4) {
		m := toBig(f.prime)
		for range 2000 {
			a, b := d.plain(f), d.plain(f)
			x, y := in(f, a), in(f, b)
			want(t, "plain", f.plain(x), a)
			p := new(big.Int).Mul(toBig(a), toBig(b))
			want(t, "mul", f.plain(f.mul(x, y)), p.Mod(p, m).Uint64())
			s := new(big.Int).Sub(toBig(a), toBig(b))
			want(t, "sub", f.plain(f.sub(x, y)), s.Mod(s, m).Uint64())
			e := d.below(1 << 20)
			q := new(big.Int).Exp(toBig(a), big.NewInt(int64(e)), m)
			want(t, "pow", f.plain(f.pow(x, e)), q.Uint64())
			if a != 0 {
				want(t, "inverse", f.mul(x, f.inverse(x)), f.one)
			}
		}
		want(t, "pow 0", f.pow(0, 0), f.one)
	}
}

func TestWhatIsLeftOfLongNumbers(t *testing.T) {
	d := draw{2}
	for _, f := range fields(3) {
		a, b := num.Of(-3), big.NewInt(-3)
		for range 60 {
			k := int(d.next()>>1) - 1<<62
			a, b = a.Mul(num.Of(k)).Add(num.Of(7)), b.Mul(b, big.NewInt(int64(k))).Add(b, big.NewInt(7))
			want(t, "left", f.plain(f.Of(a)), new(big.Int).Mod(b, toBig(f.prime)).Uint64())
		}
		want(t, "left of the prime", f.Of(f.number()), 0)
		want(t, "left of one less", f.plain(f.Of(f.number().Sub(num.Of(1)))), f.prime-1)
	}
}
