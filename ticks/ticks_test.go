package ticks_test

import (
	"math"
	"math/big"
	"testing"

	"metronome/api"
	"metronome/plain"
	"metronome/ticks"
)

const (
	most     = api.MaxTime
	fastest  = api.MaxRate
	least    = math.MinInt
	greatest = math.MaxInt
)

// edges are numbers around each bound of the chapter, and as far off as an int goes.
var edges = []int{
	least, least + 1, least / 2, -2 * most, -most - 1, -most, -most + 1, -fastest, -2, -1, 0, 1, 2, 3, 499_999, 500_000, 500_001,
	fastest - 1, fastest, fastest + 1, most / 2, most - 1, most, most + 1, 2 * most, greatest / 2, greatest/2 + 1, greatest - 1, greatest,
}

// wrongClocks may not be: each has one field that is beyond a bound, or all of them.
var wrongClocks = []ticks.Clock{
	{},
	{From: -1, Num: 1, Den: 1},
	{From: most + 1, Num: 1, Den: 1},
	{From: least, Num: 1, Den: 1},
	{From: greatest, Num: 1, Den: 1},
	{Show: -most - 1, Num: 1, Den: 1},
	{Show: most + 1, Num: 1, Den: 1},
	{Show: least, Num: 1, Den: 1},
	{Show: greatest, Num: 1, Den: 1},
	{Num: 0, Den: 1},
	{Num: 1, Den: 0},
	{Num: 0, Den: 0},
	{Num: -1, Den: 1},
	{Num: 1, Den: -1},
	{Num: -1, Den: -1},
	{Num: fastest + 1, Den: fastest},
	{Num: fastest, Den: fastest + 1},
	{Num: fastest + 1, Den: fastest + 1},
	{Num: 3, Den: 1},
	{Num: 1, Den: 3},
	{Num: 21, Den: 10},
	{Num: 10, Den: 21},
	{Num: fastest, Den: fastest/2 - 1},
	{Num: fastest/2 - 1, Den: fastest},
	{Num: least, Den: least},
	{Num: greatest, Den: greatest},
	{Num: greatest, Den: least},
	{Num: greatest/2 + 1, Den: 1},
	{Num: 1, Den: greatest/2 + 1},
	{From: least, Show: least, Num: least, Den: least},
	{From: greatest, Show: greatest, Num: greatest, Den: greatest},
}

// rightClocks lie on the bounds, or within them.
var rightClocks = []ticks.Clock{
	{Num: 1, Den: 1},
	{From: 0, Show: -most, Num: 1, Den: 1},
	{From: most, Show: most, Num: 1, Den: 1},
	{From: most, Show: -most, Num: 1, Den: 2},
	{Num: fastest, Den: fastest},
	{Num: 2, Den: 1},
	{Num: 1, Den: 2},
	{Num: 20, Den: 10},
	{Num: 10, Den: 20},
	{Num: fastest, Den: fastest / 2},
	{Num: fastest / 2, Den: fastest},
	{From: 10, Show: 100, Num: 2, Den: 1},
	{From: 7, Show: -5, Num: 1_000_000, Den: 999_999},
}

// want asks for a number, or for an error with a zero number and no place.
func want(t *testing.T, what string, got int, err error, number int, errno api.Errno) {
	t.Helper()
	e, place := plain.Place(err)
	if got != number || e != errno || place != -1 {
		t.Errorf("%s: %d, error %d at %d; want %d, error %d", what, got, e, place, number, errno)
	}
}

// die gives numbers that look drawn, the same each time.
type die uint64

func (d *die) below(n int) int {
	*d = *d*6364136223846793005 + 1442695040888963407
	return int(uint64(*d>>20) % uint64(n))
}

// clock is one that is right, its numbers near or far.
func (d *die) clock() ticks.Clock {
	den := 1 + d.below(1+d.below(fastest))
	low, high := (den+1)/2, min(2*den, fastest)
	size := 1 + d.below(1<<(1+d.below(40)))
	return ticks.Clock{From: d.below(size), Show: d.below(2*size) - size, Num: low + d.below(high-low+1), Den: den}
}

// shows is what a clock shows by the document's words, in numbers without a bound.
func shows(c ticks.Clock, real int) *big.Int {
	n := big.NewInt(int64(real))
	n.Sub(n, big.NewInt(int64(c.From)))
	n.Mul(n, big.NewInt(int64(c.Num)))
	n.Div(n, big.NewInt(int64(c.Den)))
	return n.Add(n, big.NewInt(int64(c.Show)))
}

// 1.1

func TestRight(t *testing.T) {
	for _, c := range rightClocks {
		if !c.Right() {
			t.Errorf("%v may be", c)
		}
	}
	for _, c := range wrongClocks {
		if c.Right() {
			t.Errorf("%v may not be", c)
		}
	}
}

// TestRightAtEdges holds each field, and each pair of rates, against the document's bounds.
func TestRightAtEdges(t *testing.T) {
	ask := func(c ticks.Clock, right bool) {
		if c.Right() != right {
			t.Errorf("%v: Right is %t", c, !right)
		}
	}
	for _, n := range edges {
		ask(ticks.Clock{From: n, Num: 1, Den: 1}, 0 <= n && n <= most)
		ask(ticks.Clock{Show: n, Num: 1, Den: 1}, -most <= n && n <= most)
		for _, m := range edges {
			rates := 1 <= n && n <= fastest && 1 <= m && m <= fastest
			ask(ticks.Clock{Num: n, Den: m}, rates && n <= 2*m && m <= 2*n)
		}
	}
}

func TestLocal(t *testing.T) {
	cases := []struct {
		c     ticks.Clock
		real  int
		local int
		errno api.Errno
	}{
		{ticks.Clock{From: 10, Show: 100, Num: 2, Den: 1}, 13, 106, api.OK},
		{ticks.Clock{From: 10, Show: 100, Num: 2, Den: 1}, 10, 100, api.OK},
		{ticks.Clock{From: 10, Show: 100, Num: 2, Den: 1}, 9, 0, api.ErrRange},
		{ticks.Clock{From: 10, Show: -100, Num: 2, Den: 3}, 10, -100, api.OK},
		{ticks.Clock{From: 10, Show: -100, Num: 2, Den: 3}, 11, -100, api.OK},
		{ticks.Clock{From: 10, Show: -100, Num: 2, Den: 3}, 12, -99, api.OK},
		{ticks.Clock{From: 10, Show: -100, Num: 2, Den: 3}, 13, -98, api.OK},
		{ticks.Clock{From: 0, Show: 0, Num: 1, Den: 1}, -1, 0, api.ErrRange},
		{ticks.Clock{From: 0, Show: 0, Num: 1, Den: 1}, 0, 0, api.OK},
		{ticks.Clock{From: 0, Show: 0, Num: 1, Den: 1}, most - 1, most - 1, api.OK},
		{ticks.Clock{From: 0, Show: 0, Num: 1, Den: 1}, most, most, api.OK},
		{ticks.Clock{From: 0, Show: 0, Num: 1, Den: 1}, most + 1, 0, api.ErrRange},
		{ticks.Clock{From: 0, Show: 0, Num: 1, Den: 2}, most + 1, 0, api.ErrRange},
		{ticks.Clock{From: 0, Show: 0, Num: 1, Den: 1}, greatest, 0, api.ErrRange},
		{ticks.Clock{From: 0, Show: 0, Num: 1, Den: 1}, least, 0, api.ErrRange},
		{ticks.Clock{From: 0, Show: 1, Num: 1, Den: 1}, most - 1, most, api.OK},
		{ticks.Clock{From: 0, Show: 1, Num: 1, Den: 1}, most, 0, api.ErrRange},
		{ticks.Clock{From: 0, Show: -most, Num: 2, Den: 1}, most, most, api.OK},
		{ticks.Clock{From: 0, Show: -most + 1, Num: 2, Den: 1}, most, 0, api.ErrRange},
		{ticks.Clock{From: 0, Show: -most, Num: fastest, Den: fastest / 2}, most, most, api.OK},
		{ticks.Clock{From: 0, Show: -most, Num: fastest / 2, Den: fastest}, most, -most / 2, api.OK},
		{ticks.Clock{From: most, Show: most, Num: 2, Den: 1}, most, most, api.OK},
		{ticks.Clock{From: most, Show: -most, Num: 2, Den: 1}, most, -most, api.OK},
		{ticks.Clock{From: most, Show: 0, Num: 1, Den: 1}, most - 1, 0, api.ErrRange},
		{ticks.Clock{From: 0, Show: most, Num: 1, Den: 2}, 1, most, api.OK},
		{ticks.Clock{From: 0, Show: most, Num: 1, Den: 2}, 2, 0, api.ErrRange},
	}
	for _, x := range cases {
		got, err := x.c.Local(x.real)
		want(t, "Local", got, err, x.local, x.errno)
	}
}

func TestReal(t *testing.T) {
	cases := []struct {
		c     ticks.Clock
		local int
		real  int
		errno api.Errno
	}{
		{ticks.Clock{From: 10, Show: 100, Num: 2, Den: 1}, 105, 13, api.OK},
		{ticks.Clock{From: 10, Show: 100, Num: 2, Den: 1}, 106, 13, api.OK},
		{ticks.Clock{From: 10, Show: 100, Num: 2, Den: 1}, 107, 14, api.OK},
		{ticks.Clock{From: 10, Show: 100, Num: 2, Den: 1}, 101, 11, api.OK},
		{ticks.Clock{From: 10, Show: 100, Num: 2, Den: 1}, 100, 10, api.OK},
		{ticks.Clock{From: 10, Show: 100, Num: 2, Den: 1}, 99, 10, api.OK},
		{ticks.Clock{From: 10, Show: 100, Num: 2, Den: 1}, -most, 10, api.OK},
		{ticks.Clock{From: 10, Show: 100, Num: 2, Den: 1}, -most - 1, 0, api.ErrRange},
		{ticks.Clock{From: 10, Show: -100, Num: 2, Den: 3}, -99, 12, api.OK},
		{ticks.Clock{From: 10, Show: -100, Num: 2, Den: 3}, -98, 13, api.OK},
		{ticks.Clock{From: 10, Show: -100, Num: 2, Den: 3}, -97, 15, api.OK},
		{ticks.Clock{From: 0, Show: 0, Num: 1, Den: 1}, most, most, api.OK},
		{ticks.Clock{From: 0, Show: 0, Num: 1, Den: 1}, most + 1, 0, api.ErrRange},
		{ticks.Clock{From: 0, Show: 0, Num: 2, Den: 1}, most + 1, 0, api.ErrRange},
		{ticks.Clock{From: 0, Show: 0, Num: 1, Den: 1}, greatest, 0, api.ErrRange},
		{ticks.Clock{From: 0, Show: 0, Num: 1, Den: 1}, least, 0, api.ErrRange},
		{ticks.Clock{From: 1, Show: 0, Num: 1, Den: 1}, most - 1, most, api.OK},
		{ticks.Clock{From: 1, Show: 0, Num: 1, Den: 1}, most, 0, api.ErrRange},
		{ticks.Clock{From: 0, Show: -most, Num: 2, Den: 1}, most, most, api.OK},
		{ticks.Clock{From: 0, Show: -most, Num: 2, Den: 1}, most - 1, most, api.OK},
		{ticks.Clock{From: 0, Show: -most, Num: fastest, Den: fastest / 2}, most, most, api.OK},
		{ticks.Clock{From: 0, Show: -most, Num: fastest - 1, Den: fastest / 2}, most, 0, api.ErrRange},
		{ticks.Clock{From: 0, Show: -most, Num: fastest / 2, Den: fastest}, most, 0, api.ErrRange},
		{ticks.Clock{From: 0, Show: -most, Num: fastest / 2, Den: fastest}, -most / 2, most, api.OK},
		{ticks.Clock{From: 0, Show: -most, Num: fastest / 2, Den: fastest}, -most/2 + 1, 0, api.ErrRange},
		{ticks.Clock{From: most, Show: 5, Num: 2, Den: 1}, 5, most, api.OK},
		{ticks.Clock{From: most, Show: 5, Num: 2, Den: 1}, 4, most, api.OK},
		{ticks.Clock{From: most, Show: 5, Num: 2, Den: 1}, 6, 0, api.ErrRange},
		{ticks.Clock{From: 0, Show: most, Num: 1, Den: 1}, most, 0, api.OK},
		// It shows MaxTime + 1 at 1, and at least MaxTime first then.
		{ticks.Clock{From: 0, Show: most - 1, Num: 2, Den: 1}, most, 1, api.OK},
	}
	for _, x := range cases {
		got, err := x.c.Real(x.local)
		want(t, "Real", got, err, x.real, x.errno)
	}
}

// TestWrongClocks: a clock that may not be is told ahead of a time that may not be.
func TestWrongClocks(t *testing.T) {
	for _, c := range wrongClocks {
		for _, n := range edges {
			got, err := c.Local(n)
			want(t, "Local of a wrong clock", got, err, 0, api.ErrArg)
			got, err = c.Real(n)
			want(t, "Real of a wrong clock", got, err, 0, api.ErrArg)
		}
	}
}

// TestLocalAgainstWords holds Local against the document's words, with great numbers, too.
func TestLocalAgainstWords(t *testing.T) {
	d := die(1)
	ask := func(c ticks.Clock, real int) {
		got, err := c.Local(real)
		if real < c.From || real > most {
			want(t, "Local outside", got, err, 0, api.ErrRange)
			return
		}
		number, errno := shows(c, real), api.OK
		if number.Cmp(big.NewInt(most)) > 0 {
			number, errno = big.NewInt(0), api.ErrRange
		}
		want(t, "Local", got, err, int(number.Int64()), errno)
	}
	for range 3000 {
		c := d.clock()
		ask(c, c.From+d.below(1<<(1+d.below(40))))
		ask(c, c.From-1+d.below(3))
		for _, n := range edges {
			ask(c, n)
		}
	}
	for _, c := range rightClocks {
		for _, n := range edges {
			ask(c, n)
		}
	}
}

// askReal: at what Real answers the clock shows at least local, and ahead of it less.
func askReal(t *testing.T, c ticks.Clock, local int) {
	t.Helper()
	got, err := c.Real(local)
	if local < -most || local > most {
		want(t, "Real outside", got, err, 0, api.ErrRange)
		return
	}
	l := big.NewInt(int64(local))
	if shows(c, most).Cmp(l) < 0 {
		want(t, "Real that is too late", got, err, 0, api.ErrRange)
		return
	}
	if err != nil || got < c.From || got > most || shows(c, got).Cmp(l) < 0 {
		t.Errorf("%v: Real(%d) is %d, %v: it shows %v there", c, local, got, err, shows(c, got))
	}
	if got > c.From && shows(c, got-1).Cmp(l) >= 0 {
		t.Errorf("%v: Real(%d) is %d: it shows %v ahead of it", c, local, got, shows(c, got-1))
	}
}

func TestRealIsFirst(t *testing.T) {
	d := die(2)
	for range 3000 {
		c := d.clock()
		askReal(t, c, c.Show-10+d.below(1<<(1+d.below(40))))
		last := shows(c, most)
		for i := range 4 {
			askReal(t, c, c.Show-1+i)
			askReal(t, c, int(last.Int64())-1+i)
		}
		for _, n := range edges {
			askReal(t, c, n)
		}
	}
	for _, c := range rightClocks {
		for _, n := range edges {
			askReal(t, c, n)
		}
	}
}

// TestRealByWalking finds the first time by going on tick by tick from From.
func TestRealByWalking(t *testing.T) {
	for num := 1; num <= 8; num++ {
		for den := (num + 1) / 2; den <= 2*num; den++ {
			c := ticks.Clock{From: 3, Show: -4, Num: num, Den: den}
			for local := -6; local <= 12; local++ {
				first := c.From
				for x, _ := c.Local(first); x < local; x, _ = c.Local(first) {
					first++
				}
				got, err := c.Real(local)
				want(t, "Real", got, err, first, api.OK)
			}
		}
	}
}

// 1.2

func TestAdd(t *testing.T) {
	cases := []struct {
		a, b, sum int
		errno     api.Errno
	}{
		{0, 0, 0, api.OK},
		{3, 4, 7, api.OK},
		{3, -4, -1, api.OK},
		{most, 0, most, api.OK},
		{most - 1, 1, most, api.OK},
		{most, 1, 0, api.ErrRange},
		{1, most, 0, api.ErrRange},
		{most, most, 0, api.ErrRange},
		{-most, 0, -most, api.OK},
		{-most + 1, -1, -most, api.OK},
		{-most, -1, 0, api.ErrRange},
		{-1, -most, 0, api.ErrRange},
		{-most, -most, 0, api.ErrRange},
		{most, -most, 0, api.OK},
		{most + 1, -1, 0, api.ErrRange},
		{-1, most + 1, 0, api.ErrRange},
		{-most - 1, 1, 0, api.ErrRange},
		{1, -most - 1, 0, api.ErrRange},
		{greatest, greatest, 0, api.ErrRange},
		{greatest, 1, 0, api.ErrRange},
		{greatest, -greatest, 0, api.ErrRange},
		{least, least, 0, api.ErrRange},
		{least, greatest, 0, api.ErrRange},
		{greatest, least, 0, api.ErrRange},
		{0, greatest, 0, api.ErrRange},
		{least, 0, 0, api.ErrRange},
	}
	for _, x := range cases {
		got, err := ticks.Add(x.a, x.b)
		want(t, "Add", got, err, x.sum, x.errno)
	}
}

func TestAddAtEdges(t *testing.T) {
	within := func(n int) bool { return -most <= n && n <= most }
	for _, a := range edges {
		for _, b := range edges {
			got, err := ticks.Add(a, b)
			if within(a) && within(b) && within(a+b) {
				want(t, "Add", got, err, a+b, api.OK)
			} else {
				want(t, "Add", got, err, 0, api.ErrRange)
			}
		}
	}
}

func TestSpans(t *testing.T) {
	span := func(from, to int) api.Span { return api.Span{From: from, To: to} }
	cases := []struct {
		a, b, common api.Span
	}{
		{span(0, 10), span(5, 15), span(5, 10)},
		{span(0, 10), span(2, 5), span(2, 5)},
		{span(0, 10), span(0, 10), span(0, 10)},
		{span(0, 10), span(9, 12), span(9, 10)},
		{span(-10, -2), span(-5, 3), span(-5, -2)},
		{span(0, 10), span(10, 12), api.Span{}},
		{span(0, 10), span(11, 12), api.Span{}},
		{span(3, 4), span(3, 4), span(3, 4)},
		// No time at all.
		{span(5, 5), span(0, 10), api.Span{}},
		{span(6, 5), span(0, 10), api.Span{}},
		{span(9, 1), span(0, 10), api.Span{}},
		{span(5, 5), span(5, 5), api.Span{}},
		{span(9, 1), span(8, 2), api.Span{}},
		{span(9, 1), span(9, 1), api.Span{}},
		{span(greatest, least), span(least, greatest), api.Span{}},
		// As far as an int goes.
		{span(least, greatest), span(least, greatest), span(least, greatest)},
		{span(least, greatest), span(3, 5), span(3, 5)},
		{span(least, least+1), span(least, greatest), span(least, least+1)},
		{span(greatest-1, greatest), span(least, greatest), span(greatest-1, greatest)},
		{span(least, -most), span(most, greatest), api.Span{}},
		{span(least, 0), span(0, greatest), api.Span{}},
		{span(least, 1), span(0, greatest), span(0, 1)},
	}
	for _, x := range cases {
		askSpans(t, x.a, x.b, x.common)
		askSpans(t, x.b, x.a, x.common)
	}
}

// askSpans: two spans that have something in common meet; others do not.
func askSpans(t *testing.T, a, b, common api.Span) {
	t.Helper()
	if got := ticks.Common(a, b); got != common {
		t.Errorf("Common of %v and %v is %v, want %v", a, b, got, common)
	}
	if got := ticks.Meet(a, b); got != (common != api.Span{}) {
		t.Errorf("Meet of %v and %v is %t", a, b, got)
	}
}

// TestSpansByWalking goes through all times of all small spans.
func TestSpansByWalking(t *testing.T) {
	const n = 4
	for i := range (2*n + 1) * (2*n + 1) {
		a := api.Span{From: i/(2*n+1) - n, To: i%(2*n+1) - n}
		for j := range (2*n + 1) * (2*n + 1) {
			b := api.Span{From: j/(2*n+1) - n, To: j%(2*n+1) - n}
			askSpans(t, a, b, walk(a, b))
		}
	}
}

// walk is what two small spans have in common, time by time.
func walk(a, b api.Span) (common api.Span) {
	for t := -9; t < 9; t++ {
		if t < a.From || t >= a.To || t < b.From || t >= b.To {
			continue
		}
		if common == (api.Span{}) {
			common.From = t
		}
		common.To = t + 1
	}
	return common
}
