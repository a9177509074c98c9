package ball

import (
	"math"

	"radicand/num"
	"radicand/whole"
)

// A Span is a part of the line with both of its ends, in parts of 2^Bits of 1.
type Span struct {
	Low, High num.Int
	Bits      int
}

// Narrow is n, if the ends are no farther from each other than 1 over 2^n, or a bit less; the greatest number, if they
// are the same.
func (s Span) Narrow() int {
	if s.Low.Cmp(s.High) == 0 {
		return math.MaxInt
	}
	return s.Bits - whole.BitLen(s.High.Sub(s.Low))
}

// Finer is the same span in parts of more bits.
func (s Span) Finer(bits int) Span {
	times := whole.TwoTo(bits - s.Bits)
	return Span{s.Low.Mul(times), s.High.Mul(times), bits}
}

// Ball is a ball in which s is.
func (r Rule) Ball(s Span) Ball {
	low, high := s.Low, s.High
	if s.Bits <= r.bits {
		s = s.Finer(r.bits)
		low, high = s.Low, s.High
	} else {
		parts := whole.TwoTo(s.Bits - r.bits)
		low, high = whole.Floor(low, parts), whole.Ceil(high, parts)
	}
	mid := whole.Floor(low.Add(high), num.Of(2))
	return Ball{mid, high.Sub(mid)}
}

// Middle is the middle of a alone.
func (a Ball) Middle() Ball { return Ball{mid: a.mid} }

// Within is the part of s, which has r's bits or fewer, in which a number of s is that is in a too.
func (r Rule) Within(s Span, a Ball) Span {
	s = s.Finer(r.bits)
	if low := a.mid.Sub(a.rad); low.Cmp(s.Low) > 0 {
		s.Low = low
	}
	if high := a.mid.Add(a.rad); high.Cmp(s.High) < 0 {
		s.High = high
	}
	return s
}

// Even tells whether all numbers in a are surely on one side of 0, and none is more than twice as far from it as another.
func (a Ball) Even() bool {
	return a.Sign() != 0 && a.most().Cmp(a.least().Mul(num.Of(2))) <= 0
}
