package agree_test

import (
	"fmt"
	"math"
	"slices"
	"testing"

	"metronome/agree"
	"metronome/api"
	"metronome/plain"
)

const (
	most     = api.MaxTime
	least    = math.MinInt
	greatest = math.MaxInt
)

// beyonds are not within MaxTime: next to it, and as far off as an int goes.
var beyonds = []int{least, least + 1, least / 2, -2 * most, -most - 1, most + 1, 2 * most, greatest / 2, greatest/2 + 1, greatest - 1, greatest}

// tooGreat are of which 2 f + 1 is beyond an int, or just within it.
var tooGreat = []int{greatest, greatest - 1, greatest/2 + 2, greatest/2 + 1, greatest / 2, greatest/2 - 1, 1 << 40, 1 << 32, 1 << 31}

// die gives numbers that look drawn, the same each time.
type die uint64

func (d *die) n(most int) int {
	*d = *d*6364136223846793005 + 1442695040888963407
	return int(uint64(*d>>20) % uint64(most))
}

// around is from -far to far.
func (d *die) around(far int) int {
	return d.n(2*far+1) - far
}

// list has so many numbers, from -far to far.
func (d *die) list(n, far int) []int {
	l := make([]int, n)
	for i := range l {
		l[i] = d.around(far)
	}
	return l
}

// spare is a copy of a list with numbers behind its length; asked later, whole says whether both read as they did.
func spare(l []int) (list []int, whole func() bool) {
	all := append(slices.Clone(l), 71, -72, 73)
	list = all[:len(l)]
	if l == nil {
		list = nil
	}
	before := slices.Clone(all)
	return list, func() bool { return slices.Equal(all, before) }
}

// spareRows is likewise of rows, with rows behind their length, too.
func spareRows(rows [][]int) (list [][]int, whole func() bool) {
	var asks []func() bool
	var all [][]int
	for _, row := range rows {
		r, ask := spare(row)
		all, asks = append(all, r), append(asks, ask)
	}
	behind := []int{81, 82}
	all = append(all, behind)
	shape := slices.Clone(all)
	if rows != nil {
		list = all[:len(rows)]
	}
	return list, func() bool {
		for i, row := range all {
			if len(row) != len(shape[i]) || len(row) > 0 && &row[0] != &shape[i][0] {
				return false
			}
		}
		for _, ask := range asks {
			if !ask() {
				return false
			}
		}
		return behind[0] == 81 && behind[1] == 82
	}
}

// without leaves out one number of a list: the one that stands there.
func without(l []int, i int) []int {
	return append(slices.Clone(l[:i]), l[i+1:]...)
}

// middle is Midpoint of numbers within MaxTime by another hand than the program's: the least and the greatest one are left out, time by time; then it is looked for, a step at a time from 0 on.
func middle(l []int, f int) int {
	for range f {
		l = without(l, slices.Index(l, slices.Min(l)))
		l = without(l, slices.Index(l, slices.Max(l)))
	}
	both := slices.Min(l) + slices.Max(l)
	m := 0
	for step := 1 << 41; step > 0; step /= 2 {
		for 2*(m+step) <= both {
			m += step
		}
		for 2*m > both {
			m -= step
		}
	}
	return m
}

// told is a list as a text that is not too long to read.
func told(l any) string {
	s := fmt.Sprint(l)
	return s[:min(len(s), 400)]
}

// midpoint checks Midpoint: what it answers, and that the numbers stay as they were.
func midpoint(t *testing.T, l []int, f, want int) {
	t.Helper()
	given, whole := spare(l)
	if m, err := agree.Midpoint(given, f); err != nil || m != want {
		t.Errorf("Midpoint(%s, %d): %d, %v, want %d", told(l), f, m, err, want)
	}
	if !whole() {
		t.Errorf("Midpoint(%s, %d): the numbers read otherwise afterwards", told(l), f)
	}
}

// noMidpoint checks that Midpoint tells an error, at no place, and 0 beside it.
func noMidpoint(t *testing.T, l []int, f int, want api.Errno) {
	t.Helper()
	given, whole := spare(l)
	m, err := agree.Midpoint(given, f)
	if e, place := plain.Place(err); e != want || place != -1 || m != 0 {
		t.Errorf("Midpoint(%s, %d): %d, error %d at %d, want 0, error %d", told(l), f, m, e, place, want)
	}
	if !whole() {
		t.Errorf("Midpoint(%s, %d): the numbers read otherwise afterwards", told(l), f)
	}
}

// spread checks Spread, likewise.
func spread(t *testing.T, l []int, want int) {
	t.Helper()
	given, whole := spare(l)
	if n := agree.Spread(given); n != want {
		t.Errorf("Spread(%s): %d, want %d", told(l), n, want)
	}
	if !whole() {
		t.Errorf("Spread(%s): the numbers read otherwise afterwards", told(l))
	}
}

// round checks Round: what it answers, in memory of its own, and that all that went in stays as it was.
func round(t *testing.T, clocks []int, rows [][]int, f int, want []int) {
	t.Helper()
	c, wholeClocks := spare(clocks)
	r, wholeRows := spareRows(rows)
	got, err := agree.Round(c, r, f)
	if err != nil || !slices.Equal(got, want) {
		t.Errorf("Round(%s, %s, %d): %v, %v, want %v", told(clocks), told(rows), f, got, err, want)
	}
	again, _ := agree.Round(c, r, f)
	got = got[:cap(got)]
	for i := range got {
		got[i] = 91
	}
	if !wholeClocks() || !wholeRows() {
		t.Errorf("Round(%s, %s, %d): what went in reads otherwise afterwards", told(clocks), told(rows), f)
	}
	if err == nil && !slices.Equal(again, want) {
		t.Errorf("Round(%s, %s, %d): two answers share memory, or are not the same", told(clocks), told(rows), f)
	}
}

// noRound checks that Round tells an error, at a place (-1: at none), and no clocks beside it.
func noRound(t *testing.T, clocks []int, rows [][]int, f int, want api.Errno, at int) {
	t.Helper()
	c, wholeClocks := spare(clocks)
	r, wholeRows := spareRows(rows)
	got, err := agree.Round(c, r, f)
	if e, place := plain.Place(err); e != want || place != at || got != nil {
		t.Errorf("Round(%s, %s, %d): %v, error %d at %d, want none, error %d at %d", told(clocks), told(rows), f, got, e, place, want, at)
	}
	if !wholeClocks() || !wholeRows() {
		t.Errorf("Round(%s, %s, %d): what went in reads otherwise afterwards", told(clocks), told(rows), f)
	}
}

// same is a list of one number, so many times.
func same(n, number int) []int {
	return slices.Repeat([]int{number}, n)
}

// square has so many rows of so many noughts.
func square(n int) [][]int {
	rows := make([][]int, n)
	for i := range rows {
		rows[i] = make([]int, n)
	}
	return rows
}

// 4.1

func TestMidpoint(t *testing.T) {
	for _, c := range []struct {
		l       []int
		f, want int
	}{
		{[]int{0, 10, 1000, 4}, 1, 7},
		{[]int{0, 10, 1000, 4}, 0, 500},
		{[]int{5}, 0, 5}, {[]int{0}, 0, 0}, {[]int{-5}, 0, -5},
		{[]int{3, 4}, 0, 3}, {[]int{4, 3}, 0, 3}, {[]int{2, 4}, 0, 3},
		{[]int{-3, -4}, 0, -4}, {[]int{-4, -2}, 0, -3}, {[]int{0, -1}, 0, -1}, {[]int{1, -2}, 0, -1}, {[]int{-1, 2}, 0, 0}, {[]int{-7, 0}, 0, -4},
		{[]int{1, 2, 3}, 1, 2}, {[]int{3, 1, 2}, 1, 2}, {[]int{2, 3, 1}, 1, 2}, {[]int{-1, -2, -3}, 1, -2},
		{[]int{9, 1, 8, 2}, 1, 5}, {[]int{9, 1, 6, 2}, 1, 4}, {[]int{-9, -1, -6, -3}, 1, -5},
		{[]int{5, 4, 3, 2, 1}, 2, 3}, {[]int{50, 4, 30, 2, 1}, 1, 16}, {[]int{1, 2, 30, 40, 50, 60}, 2, 35},
		{[]int{7, 7, 7}, 0, 7}, {[]int{7, 7, 7}, 1, 7}, {same(9, -7), 4, -7}, {same(9, -7), 0, -7},
		{[]int{1, 1, 9, 9}, 1, 5}, {[]int{9, 1, 1, 1}, 1, 1}, {[]int{9, 9, 9, 1}, 1, 9}, {[]int{1, 1, 1, 9, 9, 9}, 2, 5},
	} {
		midpoint(t, c.l, c.f, c.want)
	}
}

func TestMidpointIsNotTheMiddleOne(t *testing.T) {
	// Neither the middle one, nor what all that are left are on the average.
	midpoint(t, []int{0, 1, 2, 10, 99}, 1, 5)
	midpoint(t, []int{0, 1, 1, 1, 1, 11, 99}, 1, 6)
}

func TestMidpointTooMayLie(t *testing.T) {
	for _, f := range []int{-1, -2, least, least + 1, least / 2, -greatest} {
		for _, l := range [][]int{nil, {}, {1}, {1, 2, 3}, {most + 1}} {
			noMidpoint(t, l, f, api.ErrArg)
		}
	}
	for _, f := range tooGreat {
		for _, l := range [][]int{nil, {}, {1}, {1, 2}, {1, 2, 3}, {greatest}} {
			noMidpoint(t, l, f, api.ErrArg)
		}
	}
	for f := range 40 {
		noMidpoint(t, same(2*f, 6), f, api.ErrArg)
		midpoint(t, same(2*f+1, 6), f, 6)
		midpoint(t, same(2*f+2, 6), f, 6)
		noMidpoint(t, nil, f, api.ErrArg)
	}
	noMidpoint(t, []int{}, 0, api.ErrArg)
	noMidpoint(t, []int{1}, 1, api.ErrArg)
	noMidpoint(t, []int{1, 2}, 1, api.ErrArg)
}

func TestMidpointAtMaxTime(t *testing.T) {
	midpoint(t, []int{most}, 0, most)
	midpoint(t, []int{-most}, 0, -most)
	midpoint(t, []int{most, most, most}, 1, most)
	midpoint(t, []int{-most, -most, -most}, 1, -most)
	midpoint(t, []int{most, -most}, 0, 0)
	midpoint(t, []int{most, -most + 1}, 0, 0)
	midpoint(t, []int{most - 1, -most}, 0, -1)
	midpoint(t, []int{most, most - 1}, 0, most-1)
	midpoint(t, []int{-most, -most + 1}, 0, -most)
	midpoint(t, []int{-most, 3, most}, 1, 3)
}

// TestMidpointBeyond puts a number that is not within MaxTime at each place, also where it would be left out.
func TestMidpointBeyond(t *testing.T) {
	for _, n := range beyonds {
		for i := range 7 {
			l := []int{5, -1, 3, 0, most, -most, 2}
			l[i] = n
			for f := range 4 {
				noMidpoint(t, l, f, api.ErrRange)
			}
			noMidpoint(t, l, 4, api.ErrArg)
			noMidpoint(t, l, -1, api.ErrArg)
		}
		noMidpoint(t, []int{n}, 0, api.ErrRange)
		noMidpoint(t, []int{n, n, n}, 1, api.ErrRange)
	}
	noMidpoint(t, beyonds, 0, api.ErrRange)
	noMidpoint(t, beyonds, 5, api.ErrRange)
	noMidpoint(t, beyonds, 6, api.ErrArg)
}

func TestMidpointDrawn(t *testing.T) {
	d := die(11)
	for _, far := range []int{1, 3, 10, 1000, most} {
		for range 400 {
			n := 1 + d.n(20)
			l, f := d.list(n, far), d.n((n-1)/2+1)
			midpoint(t, l, f, middle(l, f))
		}
	}
}

// TestMidpointAnyOrder goes through all lists of five small numbers.
func TestMidpointAnyOrder(t *testing.T) {
	for k := range 4 * 4 * 4 * 4 * 4 {
		l := []int{k%4 - 2, k/4%4 - 2, k/16%4 - 2, k/64%4 - 2, k/256 - 2}
		for f := range 3 {
			midpoint(t, l, f, middle(l, f))
		}
	}
}

func TestMidpointOfMany(t *testing.T) {
	const n = 100_001
	l := make([]int, n)
	for i := range l {
		l[i] = i * 7919 % n // each number below n once
	}
	midpoint(t, l, 0, n/2)
	midpoint(t, l, n/2, n/2)
	noMidpoint(t, l, n/2+1, api.ErrArg)
	l[slices.Index(l, n-1)] = -1
	midpoint(t, l, 10, n/2-1)
}

func TestSpread(t *testing.T) {
	for _, c := range []struct {
		l    []int
		want int
	}{
		{nil, 0}, {[]int{}, 0}, {[]int{7}, 0}, {[]int{-7}, 0}, {[]int{most}, 0}, {[]int{-most}, 0},
		{[]int{3, 4}, 1}, {[]int{4, 3}, 1}, {[]int{-3, -4}, 1}, {[]int{-3, 4}, 7},
		{[]int{10, 12, 15}, 5}, {[]int{12, 15, 10}, 5}, {[]int{15, 10, 12}, 5}, {[]int{-10, -12, -15}, 5},
		{[]int{5, 5, 5}, 0}, {[]int{5, 5, 6, 5}, 1}, {[]int{0, 10, 1000, 4}, 1000},
		{[]int{most, -most}, 2 * most}, {[]int{-most, 0, most}, 2 * most}, {[]int{most, most - 1}, 1},
	} {
		spread(t, c.l, c.want)
	}
}

func TestSpreadDrawn(t *testing.T) {
	d := die(13)
	for _, far := range []int{2, 1000, most} {
		for range 200 {
			l := d.list(1+d.n(20), far)
			want := 0
			for _, a := range l {
				for _, b := range l {
					want = max(want, a-b)
				}
			}
			spread(t, l, want)
		}
	}
}

// TestSpreadEnds asks for no more than that it ends: of numbers beyond MaxTime nothing is promised, but that they stay.
func TestSpreadEnds(t *testing.T) {
	given, whole := spare(beyonds)
	agree.Spread(given)
	if !whole() {
		t.Errorf("Spread(%v): the numbers read otherwise afterwards", beyonds)
	}
}

func TestRound(t *testing.T) {
	round(t, []int{100, 110, 1100, 104}, [][]int{
		{0, 10, 1000, 4},
		{-10, 0, 990, -6},
		{-1000, -990, 0, -996},
		{-4, 6, 996, 0},
	}, 1, []int{107, 107, 107, 107})
	round(t, []int{5}, [][]int{{0}}, 0, []int{5})
	round(t, []int{5}, [][]int{{-3}}, 0, []int{2})
	round(t, []int{0, 3}, [][]int{{0, 3}, {-3, 0}}, 0, []int{1, 1})
	round(t, []int{-3, 0}, [][]int{{0, 3}, {-3, 0}}, 0, []int{-2, -2})
	round(t, []int{1, 2, 3}, [][]int{{10, 20, 30}, {-9, -9, -8}, {7, 7, 0}}, 0, []int{21, -7, 6})
	round(t, []int{1, 2, 3}, [][]int{{10, 20, 30}, {-9, -9, -8}, {7, 7, 0}}, 1, []int{21, -7, 10})
}

func TestRoundOfNone(t *testing.T) {
	for _, f := range []int{0, 1, -1, least, greatest} {
		round(t, nil, nil, f, nil)
		round(t, []int{}, [][]int{}, f, nil)
	}
}

// TestRoundAtMaxTime: a clock is asked ahead of the round alone; no bound is told for what it shows behind it.
func TestRoundAtMaxTime(t *testing.T) {
	round(t, []int{most, -most}, square(2), 0, []int{most, -most})
	round(t, []int{most, -most}, [][]int{{most, most}, {-most, -most}}, 0, []int{2 * most, -2 * most})
	round(t, []int{most, -most}, [][]int{{-most, -most}, {most, most}}, 0, []int{0, 0})
	round(t, []int{most, most}, [][]int{{0, 1}, {1, 1}}, 0, []int{most, most + 1})
	round(t, []int{-most, -most}, [][]int{{0, -1}, {-1, -1}}, 0, []int{-most - 1, -most - 1})
}

func TestRoundRows(t *testing.T) {
	for n := range 8 {
		clocks := make([]int, n)
		round(t, clocks, square(n), 0, clocks)
		noRound(t, clocks, append(square(n), make([]int, n)), 0, api.ErrArg, -1)
		noRound(t, clocks, append(square(n), nil), 0, api.ErrArg, -1)
		if n > 0 {
			noRound(t, clocks, square(n)[:n-1], 0, api.ErrArg, -1)
			noRound(t, clocks, nil, 0, api.ErrArg, -1)
			noRound(t, nil, square(n), 0, api.ErrArg, -1)
		}
		for i := range n {
			for _, row := range [][]int{make([]int, n+1), make([]int, n-1), make([]int, 2*n), {}, nil} {
				rows := square(n)
				rows[i] = row
				noRound(t, clocks, rows, 0, api.ErrArg, i)
			}
		}
	}
	noRound(t, []int{1}, [][]int{{}, {}}, 0, api.ErrArg, -1)
	noRound(t, nil, [][]int{nil}, 0, api.ErrArg, -1)
	noRound(t, []int{}, [][]int{{}}, 0, api.ErrArg, -1)
}

func TestRoundClockBeyond(t *testing.T) {
	for _, n := range beyonds {
		for i := range 4 {
			clocks := []int{0, most, -most, 3}
			clocks[i] = n
			noRound(t, clocks, square(4), 1, api.ErrRange, i)
			clocks[3] = greatest
			noRound(t, clocks, square(4), 0, api.ErrRange, i)
		}
	}
}

func TestRoundMidpointsErrors(t *testing.T) {
	for n := 1; n < 8; n++ {
		clocks := make([]int, n)
		enough := (n - 1) / 2
		round(t, clocks, square(n), enough, clocks)
		for _, f := range append([]int{enough + 1, -1, least}, tooGreat...) {
			noRound(t, clocks, square(n), f, api.ErrArg, 0)
		}
		for i := range n {
			for k := range n {
				for _, reading := range beyonds {
					rows := square(n)
					rows[i][k] = reading
					noRound(t, clocks, rows, enough, api.ErrRange, i)
					rows[n-1][n-1] = greatest
					noRound(t, clocks, rows, 0, api.ErrRange, i)
				}
			}
		}
	}
}

// TestRoundWhichFirst has several wrong things at once.
func TestRoundWhichFirst(t *testing.T) {
	far, short, long := most+1, []int{1}, []int{1, 2, 3}
	right, wild := []int{0, 0}, []int{0, far}
	for _, c := range []struct {
		what   string
		clocks []int
		rows   [][]int
		f      int
		want   api.Errno
		at     int
	}{
		{"rows ahead of all that is a clock's", []int{far, far}, [][]int{short}, -1, api.ErrArg, -1},
		{"rows ahead of a clock beyond", []int{far, 0}, [][]int{right, right, right}, 0, api.ErrArg, -1},
		{"rows ahead of a reading beyond", []int{0, 0}, [][]int{wild}, 0, api.ErrArg, -1},
		{"readings ahead of the clock", []int{far, 0}, [][]int{short, right}, 0, api.ErrArg, 0},
		{"readings ahead of the clock, the last one", []int{0, far}, [][]int{right, long}, 0, api.ErrArg, 1},
		{"readings ahead of Midpoint's", []int{0, 0}, [][]int{{far}, right}, 0, api.ErrArg, 0},
		{"the clock ahead of Midpoint's ErrArg", []int{far, 0}, [][]int{right, right}, -1, api.ErrRange, 0},
		{"the clock ahead of too great an f", []int{-far, 0}, [][]int{right, right}, 1, api.ErrRange, 0},
		{"Midpoint's ErrArg ahead of its ErrRange", []int{0, 0}, [][]int{wild, wild}, 1, api.ErrArg, 0},
		{"the first clock's Midpoint ahead of the second one's readings", []int{0, 0}, [][]int{wild, short}, 0, api.ErrRange, 0},
		{"the first clock's Midpoint ahead of the second clock", []int{0, far}, [][]int{right, right}, 1, api.ErrArg, 0},
		{"the first clock ahead of the second one's readings", []int{far, 0}, [][]int{right, long}, 0, api.ErrRange, 0},
		{"the second clock, the first one is right", []int{0, far}, [][]int{right, wild}, 0, api.ErrRange, 1},
		{"the second one's readings, the first one is right", []int{0, far}, [][]int{right, nil}, 0, api.ErrArg, 1},
		{"the second one's Midpoint, the first one is right", []int{0, 0}, [][]int{right, wild}, 0, api.ErrRange, 1},
		{"no clocks, no errors of clocks", []int{}, [][]int{}, -1, api.OK, -1},
	} {
		t.Run(c.what, func(t *testing.T) {
			if c.want == api.OK {
				round(t, c.clocks, c.rows, c.f, nil)
				return
			}
			noRound(t, c.clocks, c.rows, c.f, c.want, c.at)
		})
	}
}

func TestRoundDrawn(t *testing.T) {
	d := die(17)
	for _, far := range []int{3, 1000, most} {
		for range 200 {
			n := 1 + d.n(9)
			clocks, rows, f := d.list(n, far), make([][]int, n), d.n((n-1)/2+1)
			want := make([]int, n)
			for i := range rows {
				rows[i] = d.list(n, far)
				want[i] = clocks[i] + middle(rows[i], f)
			}
			round(t, clocks, rows, f, want)
		}
	}
}

// TestRoundSharedRow: one row may be handed in for several clocks, and be the clocks themselves.
func TestRoundSharedRow(t *testing.T) {
	l := []int{3, 1, 2}
	got, err := agree.Round(l, [][]int{l, l, l}, 1)
	if err != nil || !slices.Equal(got, []int{5, 3, 4}) || !slices.Equal(l, []int{3, 1, 2}) {
		t.Errorf("Round of one list four times: %v, %v; the list: %v", got, err, l)
	}
}

// 4.2

// truth is how clocks read each other, if none is wrong.
func truth(clocks []int) [][]int {
	rows := square(len(clocks))
	for i, row := range rows {
		for k := range row {
			row[k] = clocks[k] - clocks[i]
		}
	}
	return rows
}

// of are the clocks of a list that do not lie.
func of(clocks []int, lies []bool) []int {
	var l []int
	for i, n := range clocks {
		if !lies[i] {
			l = append(l, n)
		}
	}
	return l
}

// lie is a reading of a clock that lies: as far off as numbers go, or near, or anything.
func (d *die) lie() int {
	switch d.n(4) {
	case 0:
		return most
	case 1:
		return -most
	case 2:
		return d.around(50)
	}
	return d.around(most)
}

// wrong is by how much a clock that is right misreads: often by as much as it may.
func (d *die) wrong(u int) int {
	switch d.n(4) {
	case 0:
		return u
	case 1:
		return -u
	}
	return d.around(u)
}

// liars says of n clocks which f of them lie.
func (d *die) liars(n, f int) []bool {
	lies := make([]bool, n)
	for f > 0 {
		if i := d.n(n); !lies[i] {
			lies[i] = true
			f--
		}
	}
	return lies
}

// read is how clocks read each other, if some lie, and the others are wrong by at most u.
func (d *die) read(clocks []int, lies []bool, u int) [][]int {
	rows := truth(clocks)
	for i, row := range rows {
		for k := range row {
			if lies[i] || lies[k] {
				row[k] = d.lie()
			} else {
				row[k] += d.wrong(u)
			}
		}
	}
	return rows
}

// halved says whether clocks that were so far apart are now at most half as far apart, and 2 u + 1.
func halved(now, before, u int) bool {
	return 2*now <= before+2*(2*u+1)
}

func TestWelchLynch(t *testing.T) {
	d := die(19)
	for _, u := range []int{0, 1, 2, 5, 1000, 1 << 30} {
		for _, far := range []int{0, 1, 2, 3, 7, 20, 999, 1 << 20, most / 4} {
			for n := 1; n <= 16; n++ {
				for f := 0; 3*f+1 <= n; f++ {
					for range 6 {
						lies := d.liars(n, f)
						clocks := d.list(n, far)
						for i := range clocks {
							if lies[i] {
								clocks[i] = d.lie()
							}
						}
						rows := d.read(clocks, lies, u)
						before := agree.Spread(of(clocks, lies))
						now, err := agree.Round(clocks, rows, f)
						if err != nil || !halved(agree.Spread(of(now, lies)), before, u) {
							t.Fatalf("Round(%v, %v, %d), of which %v lie, wrong by at most %d: %v, %v", clocks, rows, f, lies, u, now, err)
						}
					}
				}
			}
		}
	}
}

// TestWelchLynchFurthest: the liars tell half of the others that they are as far ahead as numbers go, the other half as far behind.
func TestWelchLynchFurthest(t *testing.T) {
	for f := 1; f <= 5; f++ {
		n := 3*f + 1
		clocks := make([]int, n)
		lies := make([]bool, n)
		for i := range clocks {
			clocks[i], lies[i] = 1000*(i%2), i < f
		}
		rows := truth(clocks)
		for i, row := range rows {
			for k := range f {
				row[k] = most - 2*most*(i%2)
			}
		}
		now, err := agree.Round(clocks, rows, f)
		if got := agree.Spread(of(now, lies)); err != nil || got > 501 {
			t.Errorf("%d clocks of which %d lie, 1000 apart: %d apart behind a Round, %v", n, f, got, err)
		}
	}
}

// odometer goes on to the next list of digits below base; false: that was the last one.
func odometer(digits []int, base int) bool {
	for i := range digits {
		if digits[i]++; digits[i] < base {
			return true
		}
		digits[i] = 0
	}
	return false
}

// TestWelchLynchWorst goes through all ways in which three clocks may misread each other by at most 1, and a fourth one may lie: no row hangs on another, so the worst of each makes the worst of all.
func TestWelchLynchWorst(t *testing.T) {
	lies := []int{-most, -3, -2, -1, 0, 1, 2, 3, 4, 5, 6, 7, most}
	for u := range 2 {
		for a := range 8 {
			for b := range a + 1 {
				clocks := []int{0, a, b, 0}
				high, low := same(3, least), same(3, greatest)
				digits := make([]int, 3)
				for more := true; more; more = odometer(digits, 2*u+1) {
					for _, lie := range lies {
						rows := truth(clocks)
						for i := range 3 {
							for k := range 3 {
								rows[i][k] += digits[k] - u
							}
							rows[i][3] = lie
						}
						now, err := agree.Round(clocks, rows, 1)
						if err != nil {
							t.Fatalf("Round(%v, %v, 1): %v", clocks, rows, err)
						}
						for i := range 3 {
							high[i], low[i] = max(high[i], now[i]), min(low[i], now[i])
						}
					}
				}
				if worst := slices.Max(high) - slices.Min(low); !halved(worst, a, u) {
					t.Errorf("clocks 0, %d, %d, wrong by at most %d: %d apart behind a Round", a, b, u, worst)
				}
			}
		}
	}
}

// TestWelchLynchRounds: round by round clocks come as near as misreading lets them: 4 u + 2.
func TestWelchLynchRounds(t *testing.T) {
	d := die(23)
	for _, u := range []int{0, 1, 10} {
		for f := range 5 {
			n := 3*f + 1
			lies := d.liars(n, f)
			clocks := d.list(n, 1<<30)
			for range 40 {
				before := agree.Spread(of(clocks, lies))
				now, err := agree.Round(clocks, d.read(clocks, lies, u), f)
				if err != nil || !halved(agree.Spread(of(now, lies)), before, u) {
					t.Fatalf("%v, of which %v lie, wrong by at most %d: %v, %v", clocks, lies, u, now, err)
				}
				for i := range now {
					if lies[i] {
						now[i] = d.lie()
					}
				}
				clocks = now
			}
			if got := agree.Spread(of(clocks, lies)); got > 4*u+2 {
				t.Errorf("%d clocks of which %d lie, wrong by at most %d: %d apart behind 40 rounds", n, f, u, got)
			}
		}
	}
}
