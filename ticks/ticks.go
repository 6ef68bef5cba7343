// Package ticks: clocks that go too fast, or too slow.
package ticks

import (
	"metronome/api"
)

// Clock shows Show at the real time From, and goes on by Num ticks in each Den of real time.
type Clock struct {
	From, Show int
	Num, Den   int
}

// between is what tells whether a number may be, where it may be from least to most.
func between(least, most int) func(int) bool {
	return func(n int) bool { return least <= n && n <= most }
}

// Right says whether a clock may be: times from 0 to MaxTime (Show from -MaxTime); Num and Den from 1 to MaxRate, neither more than twice the other.
func (c Clock) Right() (_ bool) {
	time := between(0, api.MaxTime)
	reading := between(-api.MaxTime, api.MaxTime)
	rate := between(1, api.MaxRate)
	if !time(c.From) || !reading(c.Show) || !rate(c.Num) || !rate(c.Den) {
		return false
	}
	// Doubled only now: within MaxRate neither wraps round.
	return c.Num <= 2*c.Den && c.Den <= 2*c.Num
}

// Local is what it shows at a real time. ErrArg: it isn't right; ErrRange: the time is ahead of From, or above MaxTime, or what it shows is.
func (c Clock) Local(real int) (_ int, _ error) {
	if !c.Right() {
		return 0, api.ErrArg
	}
	if time := between(c.From, api.MaxTime); !time(real) {
		return 0, api.ErrRange
	}
	// The product is at most MaxTime * MaxRate, below 2^60; it is never below 0, so / rounds down.
	local := c.Show + (real-c.From)*c.Num/c.Den
	if local > api.MaxTime {
		return 0, api.ErrRange
	}
	return local, nil
}

// Real is the first real time at which it shows at least so much. ErrArg, ErrRange likewise; what it showed at From counts, too.
func (c Clock) Real(local int) (_ int, _ error) {
	if !c.Right() {
		return 0, api.ErrArg
	}
	if reading := between(-api.MaxTime, api.MaxTime); !reading(local) {
		return 0, api.ErrRange
	}
	if local <= c.Show {
		return c.From, nil
	}
	// Local rounds down, so the first time that is enough is rounded up. The product is at most 2 * MaxTime * MaxRate, below 2^61.
	real := c.From + ((local-c.Show)*c.Den+c.Num-1)/c.Num
	if real > api.MaxTime {
		return 0, api.ErrRange
	}
	return real, nil
}

// Add is a sum of times. ErrRange: one, or the sum, is not within MaxTime.
func Add(a, b int) (_ int, _ error) {
	within := between(-api.MaxTime, api.MaxTime)
	// The sum is asked last: of two that are within, it does not wrap round.
	if !within(a) || !within(b) || !within(a+b) {
		return 0, api.ErrRange
	}
	return a + b, nil
}

// Meet says whether two spans have a time in common.
func Meet(a, b api.Span) (_ bool) {
	return max(a.From, b.From) < min(a.To, b.To)
}

// Common is what two spans have in common (from 0 to 0: nothing).
func Common(a, b api.Span) (_ api.Span) {
	if !Meet(a, b) {
		return api.Span{}
	}
	return api.Span{From: max(a.From, b.From), To: min(a.To, b.To)}
}
