package tower

import (
	"radicand/ball"
	"radicand/num"
)

// A Root is a coordinate. It is closed in on by calls that ask for more of it.
type Root struct {
	at num.Frac // what it is, if line is nil

	line *line // that of which it is a root
	rank int   // which of line's roots it is
	near ball.Span

	// By how many bits the next step is to make the span narrower, and how many more it takes to reckon with than the
	// span shall be narrow.
	gain, guard int
}

// The guard with which closing in begins, and the bits that a step may be short without more guard.
const (
	leastGuard = 24
	mostShort  = 4
)

// span is where the root is, the ends being no farther from each other than 1 over 2^n.
func (x *Root) span(n int) ball.Span {
	if x.gain == 0 {
		x.near = x.line.begin(x.rank)
		x.gain, x.guard = 2, leastGuard
	}
	for x.near.Narrow() < n {
		// Some more: so the next ones who ask for a bit more have it.
		x.step(n + n/16 + leastGuard)
	}
	return x.near
}

// step makes the span narrower by Newton's way, if what is reckoned with is known well enough; but it need not be
// narrower than n tells.
func (x *Root) step(n int) {
	old := x.near.Narrow()
	goal := min(old+x.gain, n)
	near, blunt, ok := x.newton(goal)
	if !ok {
		x.guard *= 2
		return
	}
	x.near = near
	if near.Narrow() >= n {
		return
	}
	got, short := near.Narrow()-old, goal-near.Narrow()
	switch {
	case got == 0:
		x.guard *= 2
	case blunt && short > mostShort:
		x.guard = max(x.guard, near.Bits-near.Narrow()) + mostShort
	default:
		// Newton's way makes about twice as many bits right each time, as soon as it does.
		x.gain = 2 * got
	}
}

// newton is where the root is, by what the polynomial is in the middle of the span, and by its slopes there; and whether
// the span would be narrower mostly if more bits were reckoned with.
func (x *Root) newton(goal int) (near ball.Span, blunt, ok bool) {
	r := ball.Of(max(goal+x.guard, leastGuard, x.near.Bits))
	cs, ok := x.line.coefficients(r)
	if !ok {
		return ball.Span{}, false, false
	}
	middle := r.Ball(x.near).Middle()
	there := r.Value(cs, middle)
	slope := slope(cs, x.near, r, max(0, goal-x.near.Narrow())+x.guard)
	way, ok := r.Quo(there, slope)
	if !ok {
		return ball.Span{}, false, false
	}
	return r.Within(x.near, middle.Sub(way)), there.Blunter(slope), true
}
