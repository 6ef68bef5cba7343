package guard_test

import (
	"fmt"
	"math"
	"math/big"
	"slices"
	"sort"
	"testing"

	"metronome/api"
	"metronome/guard"
	"metronome/plain"
	"metronome/plan"
	"metronome/ticks"
)

const (
	most     = api.MaxTime
	least    = math.MinInt
	greatest = math.MaxInt
)

// extremes are next to the bounds of times, and as far off as an int goes.
var extremes = []int{least, least + 1, least / 2, -most - 1, -most, -1, 0, 1, most - 1, most, most + 1, greatest / 2, greatest - 1, greatest}

// die gives numbers that look drawn, the same each time.
type die uint64

func (d *die) n(most int) int {
	*d = *d*6364136223846793005 + 1442695040888963407
	return int(uint64(*d>>20) % uint64(most))
}

// any is one of some numbers.
func (d *die) any(l []int) int {
	return l[d.n(len(l))]
}

// slot is one of a node.
func slot(node, from, to int) api.Slot {
	return api.Slot{Node: node, Span: api.Span{From: from, To: to}}
}

// span is one.
func span(from, to int) api.Span {
	return api.Span{From: from, To: to}
}

// clock shows that much more than the time, and goes with it.
func clock(ahead int) ticks.Clock {
	return ticks.Clock{From: 0, Show: ahead, Num: 1, Den: 1}
}

// three is a plan that may be, of three nodes: node 0 has two slots, node 1 one, node 2 none.
func three() api.Plan {
	return api.Plan{
		Nodes: 3, Skew: 4, Round: 100, Frame: 10,
		Slots:   []api.Slot{slot(0, 10, 20), slot(1, 30, 40), slot(0, 50, 95)},
		Links:   []api.Link{{From: 0, To: 6, Bag: 5, Queue: 2}},
		Windows: []api.Window{{Part: 1, Span: span(2, 5)}},
	}
}

// alone is a plan of one slot, of node 0.
func alone(round, from, to int) api.Plan {
	return api.Plan{Nodes: 1, Skew: 1, Round: round, Frame: 1, Slots: []api.Slot{slot(0, from, to)}}
}

// behind lays something behind a list's length; nil stays nil.
func behind[T any](l []T, more ...T) (list, all []T) {
	if l == nil {
		return nil, nil
	}
	all = append(slices.Clone(l), more...)
	return all[:len(l)], all
}

// spare is a guard like another one, whose plan's lists have something behind their length; asked later, whole says whether all of it reads as it did.
func spare(g guard.Guard) (like guard.Guard, whole func() bool) {
	like = g
	var all api.Plan
	like.Plan.Slots, all.Slots = behind(g.Plan.Slots, slot(g.Node, 1, 1000), slot(0, 2, 2000))
	like.Plan.Links, all.Links = behind(g.Plan.Links, api.Link{From: 1, To: 2, Bag: 3, Queue: 4})
	like.Plan.Windows, all.Windows = behind(g.Plan.Windows, api.Window{Part: 1, Span: span(1, 9)})
	before := all
	before.Slots, before.Links, before.Windows = slices.Clone(all.Slots), slices.Clone(all.Links), slices.Clone(all.Windows)
	return like, func() bool {
		return plain.Same(all, before) && plain.Same(like.Plan, g.Plan) && like.Clock == g.Clock && like.Node == g.Node
	}
}

// told is a guard as a text that is not too long to read.
func told(g guard.Guard) string {
	s := fmt.Sprint(g)
	return s[:min(len(s), 400)]
}

// opens checks Opens: what it answers (with an error nothing beside it, and no place), and that what went in stays as it was.
func opens(t *testing.T, g guard.Guard, round, slot int, want api.Span, no api.Errno) {
	t.Helper()
	given, whole := spare(g)
	got, err := given.Opens(round, slot)
	if e, place := plain.Place(err); got != want || e != no || place != -1 {
		t.Errorf("%s.Opens(%d, %d): %v, error %d at %d, want %v, error %d", told(g), round, slot, got, e, place, want, no)
	}
	if !whole() {
		t.Errorf("%s.Opens(%d, %d): what went in reads otherwise afterwards", told(g), round, slot)
	}
}

// passes checks Passes, likewise; the zero span is that nothing does.
func passes(t *testing.T, g guard.Guard, sends api.Span, from, to int, want api.Span) {
	t.Helper()
	given, whole := spare(g)
	got, ok := given.Passes(sends, from, to)
	if got != want || ok != (want != api.Span{}) {
		t.Errorf("%s.Passes(%v, %d, %d): %v, %v, want %v", told(g), sends, from, to, got, ok, want)
	}
	if !whole() {
		t.Errorf("%s.Passes(%v, %d, %d): what went in reads otherwise afterwards", told(g), sends, from, to)
	}
}

// within says whether a number of any size is from one to another.
func within(n *big.Int, from, to int) bool {
	return n.Cmp(big.NewInt(int64(from))) >= 0 && n.Cmp(big.NewInt(int64(to))) <= 0
}

// first is when a clock shows at least so much, looked for by what it shows at times.
func first(c ticks.Clock, shows int) (int, api.Errno) {
	if !c.Right() {
		return 0, api.ErrArg
	}
	later := sort.Search(most+1-c.From, func(k int) bool {
		n, err := c.Local(c.From + k) // an error: it shows more than MaxTime
		return err != nil || n >= shows
	})
	if c.From+later > most {
		return 0, api.ErrRange
	}
	return c.From + later, api.OK
}

// opensLike is Opens by another hand: the sums and products are numbers of any size, and the time is looked for.
func opensLike(g guard.Guard, round, slot int) (api.Span, api.Errno) {
	if slot < 0 || slot > len(g.Plan.Slots)-1 {
		return api.Span{}, api.ErrMissing
	}
	begin := new(big.Int).Mul(big.NewInt(int64(round)), big.NewInt(int64(g.Plan.Round)))
	if g.Plan.Round < 1 || round < 0 || !within(begin, 0, most) {
		return api.Span{}, api.ErrRange
	}
	var found []int
	for _, end := range []int{g.Plan.Slots[slot].From, g.Plan.Slots[slot].To} {
		sum := new(big.Int).Add(begin, big.NewInt(int64(end)))
		if !within(big.NewInt(int64(end)), -most, most) || !within(sum, -most, most) {
			return api.Span{}, api.ErrRange
		}
		at, e := first(g.Clock, int(sum.Int64()))
		if e != api.OK {
			return api.Span{}, e
		}
		found = append(found, at)
	}
	return span(found[0], found[1]), api.OK
}

// rounds are those that Passes looks through, one by one, in numbers of any size.
func rounds(from, to int) []int {
	var l []int
	r := big.NewInt(int64(from))
	if r.Sign() < 0 {
		r = big.NewInt(0)
	}
	for len(l) < 50 && r.Cmp(big.NewInt(int64(to))) <= 0 {
		l = append(l, int(r.Int64()))
		r = new(big.Int).Add(r, big.NewInt(1))
	}
	return l
}

// passesLike is Passes by another hand.
func passesLike(g guard.Guard, sends api.Span, from, to int) api.Span {
	for _, round := range rounds(from, to) {
		for i := range g.Plan.Slots {
			open, e := opensLike(g, round, i)
			if g.Plan.Slots[i].Node != g.Node || e != api.OK {
				continue
			}
			ends := []int{open.From, open.To, sends.From, sends.To}
			slices.Sort(ends)
			// What two spans have in common lies between the two ends in the middle, if it begins behind both beginnings.
			if ends[1] < ends[2] && open.From <= ends[1] && sends.From <= ends[1] {
				return span(ends[1], ends[2])
			}
		}
	}
	return api.Span{}
}

// 5.1: Opens

func TestOpens(t *testing.T) {
	p := three()
	if err := plan.Check(p); err != nil {
		t.Fatalf("Check(%v): %v", p, err)
	}
	for _, c := range []struct {
		what        string
		clock       ticks.Clock
		round, slot int
		want        api.Span
		no          api.Errno
	}{
		{"the first slot", clock(0), 0, 0, span(10, 20), api.OK},
		{"the second slot, another node's", clock(0), 0, 1, span(30, 40), api.OK},
		{"the last slot", clock(0), 0, 2, span(50, 95), api.OK},
		{"one more", clock(0), 0, 3, api.Span{}, api.ErrMissing},
		{"slot -1", clock(0), 0, -1, api.Span{}, api.ErrMissing},
		{"round 1", clock(0), 1, 0, span(110, 120), api.OK},
		{"round 7", clock(0), 7, 2, span(750, 795), api.OK},
		{"a clock that shows more", clock(3), 1, 0, span(107, 117), api.OK},
		{"a clock that shows less", clock(-3), 1, 0, span(113, 123), api.OK},
		{"a clock that shows the slot's beginning", clock(10), 0, 0, span(0, 10), api.OK},
		{"a clock that shows more than that", clock(15), 0, 0, span(0, 5), api.OK},
		{"a clock that shows the slot's end, but for one", clock(19), 0, 0, span(0, 1), api.OK},
		{"a clock that shows the slot's end", clock(20), 0, 0, span(0, 0), api.OK},
		{"a clock that begins later", ticks.Clock{From: 12, Show: 12, Num: 1, Den: 1}, 0, 0, span(12, 20), api.OK},
		{"a clock that begins behind the slot", ticks.Clock{From: 70, Show: 70, Num: 1, Den: 1}, 0, 0, span(70, 70), api.OK},
		{"a clock twice as fast", ticks.Clock{Num: 2, Den: 1}, 1, 0, span(55, 60), api.OK},
		{"a clock half as fast", ticks.Clock{Num: 1, Den: 2}, 1, 0, span(220, 240), api.OK},
		{"a clock a bit too fast", ticks.Clock{Num: 101, Den: 100}, 1, 1, span(129, 139), api.OK},
		{"a clock a bit too slow", ticks.Clock{Num: 99, Den: 100}, 1, 1, span(132, 142), api.OK},
		{"a clock that leaves out the beginning", ticks.Clock{Show: 1, Num: 3, Den: 2}, 0, 0, span(6, 13), api.OK},
		{"a clock that is not right", ticks.Clock{Num: 3, Den: 1}, 0, 0, api.Span{}, api.ErrArg},
		{"no clock", ticks.Clock{}, 0, 0, api.Span{}, api.ErrArg},
		{"round -1", clock(0), -1, 0, api.Span{}, api.ErrRange},
		{"the last round, whose slot is beyond MaxTime", clock(0), most / 100, 2, api.Span{}, api.ErrRange},
		{"the last round, a slot within MaxTime", clock(0), most / 100, 0, span(most/100*100+10, most/100*100+20), api.OK},
		{"one more round", clock(0), most/100 + 1, 0, api.Span{}, api.ErrRange},
	} {
		t.Run(c.what, func(t *testing.T) {
			for _, node := range []int{0, 1, 2, -1, greatest} { // whose guard it is does not matter
				opens(t, guard.Guard{Plan: p, Clock: c.clock, Node: node}, c.round, c.slot, c.want, c.no)
			}
		})
	}
}

// TestOpensRound: which lengths of a round, and which rounds, may be.
func TestOpensRound(t *testing.T) {
	for _, r := range []int{0, -1, -100, -most, -most - 1, least + 1, least} {
		for _, round := range []int{0, 1, -1, least, greatest, most} {
			opens(t, guard.Guard{Plan: alone(r, 0, 1), Clock: clock(0)}, round, 0, api.Span{}, api.ErrRange)
		}
	}
	for _, r := range []int{1, 2, 3, 7, 100, 12345, most / 8, most/2 - 1, most / 2, most/2 + 1, most - 1, most} {
		g := guard.Guard{Plan: alone(r, -1, 0), Clock: clock(0)}
		last := most / r
		opens(t, g, 0, 0, span(0, 0), api.OK)
		opens(t, g, 1, 0, span(r-1, r), api.OK)
		opens(t, g, last, 0, span(last*r-1, last*r), api.OK)
		for _, round := range []int{last + 1, last + 2, 2*last + 2, most + 1, greatest - 1, greatest, -1, -2, -last, -most, least, least + 1} {
			opens(t, g, round, 0, api.Span{}, api.ErrRange)
		}
	}
	for _, r := range []int{most + 1, 2 * most, greatest/2 + 1, greatest - 1, greatest} { // of these MaxTime / Round is 0
		g := guard.Guard{Plan: alone(r, 4, 6), Clock: clock(0)}
		opens(t, g, 0, 0, span(4, 6), api.OK)
		for _, round := range []int{1, 2, 4, most, greatest, -1, least} {
			opens(t, g, round, 0, api.Span{}, api.ErrRange)
		}
	}
	// Products that wrap round to 0, or to a time that may be, are beyond what may be nevertheless.
	for _, w := range [][2]int{{1 << 32, 1 << 32}, {1 << 30, 1 << 34}, {1 << 40, 1 << 24}, {1 << 24, 1 << 40}, {6, greatest/3 + 1}, {3, greatest/3*2 + 2}} {
		opens(t, guard.Guard{Plan: alone(w[0], 0, 1), Clock: clock(0)}, w[1], 0, api.Span{}, api.ErrRange)
	}
}

// TestOpensEnds: times at both ends of a slot, up to those that Add tells to be too great.
func TestOpensEnds(t *testing.T) {
	for _, c := range []struct {
		what     string
		from, to int
		round    int
		want     api.Span
		no       api.Errno
	}{
		{"both within", 0, most, 0, span(0, most), api.OK},
		{"both at the very end", most, most, 0, span(most, most), api.OK},
		{"to too great", 0, most + 1, 0, api.Span{}, api.ErrRange},
		{"from too great", most + 1, 5, 0, api.Span{}, api.ErrRange},
		{"both the least that may be", -most, -most, 0, span(0, 0), api.OK},
		{"from too small", -most - 1, 5, 0, api.Span{}, api.ErrRange},
		{"to too small", 5, -most - 1, 0, api.Span{}, api.ErrRange},
		{"the sum at to just within", 0, most - 10, 1, span(10, most), api.OK},
		{"the sum at to too great", 0, most - 9, 1, api.Span{}, api.ErrRange},
		{"the sum at from just within", most - 10, 7, 1, span(most, 17), api.OK},
		{"the sum at from too great", most - 9, 7, 1, api.Span{}, api.ErrRange},
		{"below 0, in a round that makes up for it", -5, -3, 1, span(5, 7), api.OK},
		{"below 0, in a round that does not", -25, -3, 1, span(0, 7), api.OK},
		{"from at to", 5, 5, 1, span(15, 15), api.OK},
		{"from above to", 8, 5, 1, span(18, 15), api.OK},
		{"to too small of itself, though the sum is within", 0, -most - 5, 1, api.Span{}, api.ErrRange},
		{"from too small of itself, though the sum is within", -most - 5, 0, 1, api.Span{}, api.ErrRange},
		{"from as small as an int can be", least, 5, 1, api.Span{}, api.ErrRange},
		{"from as great", greatest, 5, 1, api.Span{}, api.ErrRange},
		{"to as small", 5, least, 1, api.Span{}, api.ErrRange},
		{"to as great", 5, greatest, 1, api.Span{}, api.ErrRange},
	} {
		t.Run(c.what, func(t *testing.T) {
			opens(t, guard.Guard{Plan: alone(10, c.from, c.to), Clock: clock(0)}, c.round, 0, c.want, c.no)
		})
	}
}

// TestOpensClock: Real's errors, at both ends.
func TestOpensClock(t *testing.T) {
	late := ticks.Clock{From: most - 10, Show: 0, Num: 1, Den: 1} // shows 10 at MaxTime
	slow := ticks.Clock{From: most - 10, Show: 0, Num: 1, Den: 2} // shows 5 at MaxTime
	for _, c := range []struct {
		what     string
		clock    ticks.Clock
		from, to int
		want     api.Span
		no       api.Errno
	}{
		{"at MaxTime", late, 3, 10, span(most-7, most), api.OK},
		{"to above MaxTime", late, 3, 11, api.Span{}, api.ErrRange},
		{"from above MaxTime", late, 11, 3, api.Span{}, api.ErrRange},
		{"a slow one at MaxTime", slow, 0, 5, span(most-10, most), api.OK},
		{"a slow one above MaxTime", slow, 0, 6, api.Span{}, api.ErrRange},
		{"From below 0", ticks.Clock{From: -1, Num: 1, Den: 1}, 0, 5, api.Span{}, api.ErrArg},
		{"From above MaxTime", ticks.Clock{From: most + 1, Num: 1, Den: 1}, 0, 5, api.Span{}, api.ErrArg},
		{"From at MaxTime", ticks.Clock{From: most, Num: 1, Den: 1}, -4, 0, span(most, most), api.OK},
		{"Show too small", ticks.Clock{Show: -most - 1, Num: 1, Den: 1}, 0, 5, api.Span{}, api.ErrArg},
		{"Show as small as may be", ticks.Clock{Show: -most, Num: 2, Den: 1}, 0, 6, span(most/2, most/2+3), api.OK},
		{"Show too great", ticks.Clock{Show: most + 1, Num: 1, Den: 1}, 0, 5, api.Span{}, api.ErrArg},
		{"Show as great as may be", ticks.Clock{Show: most, Num: 1, Den: 1}, 0, 5, span(0, 0), api.OK},
		{"Num 0", ticks.Clock{Num: 0, Den: 1}, 0, 5, api.Span{}, api.ErrArg},
		{"Den 0", ticks.Clock{Num: 1, Den: 0}, 0, 5, api.Span{}, api.ErrArg},
		{"Num more than twice Den", ticks.Clock{Num: 5, Den: 2}, 0, 5, api.Span{}, api.ErrArg},
		{"Den more than twice Num", ticks.Clock{Num: 2, Den: 5}, 0, 5, api.Span{}, api.ErrArg},
	} {
		t.Run(c.what, func(t *testing.T) {
			opens(t, guard.Guard{Plan: alone(100, c.from, c.to), Clock: c.clock}, 0, 0, c.want, c.no)
		})
	}
	for _, n := range []int{least, least + 1, greatest - 1, greatest} {
		for _, c := range []ticks.Clock{{From: n, Num: 1, Den: 1}, {Show: n, Num: 1, Den: 1}, {Num: n, Den: 1}, {Num: 1, Den: n}, {Num: n, Den: n}} {
			opens(t, guard.Guard{Plan: alone(100, 0, 5), Clock: c}, 0, 0, api.Span{}, api.ErrArg)
		}
	}
}

// TestOpensFirst: of several wrong things, the one that is told first.
func TestOpensFirst(t *testing.T) {
	wrong := ticks.Clock{}
	late := ticks.Clock{From: most, Num: 1, Den: 1}
	for _, c := range []struct {
		what        string
		plan        api.Plan
		clock       ticks.Clock
		round, slot int
		no          api.Errno
	}{
		{"no slot ahead of Round", alone(0, 0, 5), clock(0), 0, 1, api.ErrMissing},
		{"no slot ahead of the round", alone(10, 0, 5), clock(0), -1, -1, api.ErrMissing},
		{"no slot ahead of the clock", alone(10, 0, 5), wrong, 0, 1, api.ErrMissing},
		{"no slot ahead of all", alone(-1, most+1, least), wrong, least, greatest, api.ErrMissing},
		{"Round ahead of the clock", alone(0, 0, 5), wrong, 0, 0, api.ErrRange},
		{"the round ahead of the clock", alone(10, 0, 5), wrong, -1, 0, api.ErrRange},
		{"too great a round ahead of the clock", alone(10, 0, 5), wrong, most/10 + 1, 0, api.ErrRange},
		{"from's sum ahead of the clock", alone(10, most+1, 5), wrong, 0, 0, api.ErrRange},
		{"from's sum in a round ahead of the clock", alone(10, most-5, 5), wrong, 1, 0, api.ErrRange},
		{"the clock, at from, ahead of to's sum", alone(10, 0, most+1), wrong, 0, 0, api.ErrArg},
		{"the clock, at from, ahead of to's sum in a round", alone(10, 0, most-5), wrong, 1, 0, api.ErrArg},
		{"the clock ahead of a time above MaxTime", alone(10, 1, 2), ticks.Clock{From: most, Num: 3, Den: 1}, 0, 0, api.ErrArg},
		{"from's time ahead of to's sum", alone(10, 1, greatest), late, 0, 0, api.ErrRange},
	} {
		t.Run(c.what, func(t *testing.T) {
			opens(t, guard.Guard{Plan: c.plan, Clock: c.clock}, c.round, c.slot, api.Span{}, c.no)
		})
	}
}

// TestOpensSlots: plans with no slots, nil lists, and slots as far off as numbers go.
func TestOpensSlots(t *testing.T) {
	for _, p := range []api.Plan{{}, {Round: 10}, {Round: 10, Slots: []api.Slot{}}, {Nodes: 3, Skew: 1, Round: 10, Frame: 5}} {
		for _, slot := range extremes {
			for _, round := range extremes {
				opens(t, guard.Guard{Plan: p, Clock: clock(0)}, round, slot, api.Span{}, api.ErrMissing)
			}
		}
	}
	for _, slot := range extremes {
		if slot != 0 && slot != 1 {
			opens(t, guard.Guard{Plan: three(), Clock: clock(0)}, 0, slot, api.Span{}, api.ErrMissing)
		}
	}
	// What stands behind the length is no slot.
	g := guard.Guard{Plan: three(), Clock: clock(0)}
	g.Plan.Slots = g.Plan.Slots[:1]
	opens(t, g, 0, 1, api.Span{}, api.ErrMissing)
	// More slots than a plan may have are slots nevertheless: no sentence asks whether it may be.
	g.Plan.Slots = slices.Repeat([]api.Slot{slot(99, 3, 4)}, 1000)
	opens(t, g, 2, 999, span(203, 204), api.OK)
	opens(t, g, 2, 1000, api.Span{}, api.ErrMissing)
}

// TestOpensOtherNumbers: of a plan its Round and the slot alone matter.
func TestOpensOtherNumbers(t *testing.T) {
	for _, n := range extremes {
		p := alone(10, 2, 5)
		p.Nodes, p.Faulty, p.Skew, p.Jitter, p.Drift, p.Frame = n, n, n, n, n, n
		p.Slots[0].Node = n
		p.Links = []api.Link{{From: n, To: n, Bag: n, Queue: n}}
		p.Windows = []api.Window{{Part: n, Span: span(n, n)}}
		opens(t, guard.Guard{Plan: p, Clock: clock(0), Node: n}, 3, 0, span(32, 35), api.OK)
		passes(t, guard.Guard{Plan: p, Clock: clock(0), Node: n}, span(34, 100), 3, 3, span(34, 35))
	}
}

// 5.1: Passes

func TestPasses(t *testing.T) {
	p := three()
	for _, c := range []struct {
		what     string
		node     int
		sends    api.Span
		from, to int
		want     api.Span
	}{
		{"all of what is sent", 0, span(12, 15), 0, 0, span(12, 15)},
		{"all of a slot", 0, span(5, 25), 0, 0, span(10, 20)},
		{"exactly a slot", 0, span(10, 20), 0, 0, span(10, 20)},
		{"the beginning of a slot alone", 0, span(5, 15), 0, 0, span(10, 15)},
		{"the end of a slot alone", 0, span(15, 25), 0, 0, span(15, 20)},
		{"one time at the beginning", 0, span(5, 11), 0, 0, span(10, 11)},
		{"one time at the end", 0, span(19, 25), 0, 0, span(19, 20)},
		{"up to the beginning", 0, span(5, 10), 0, 0, api.Span{}},
		{"from the end on", 0, span(20, 30), 0, 0, api.Span{}},
		{"in another one's slot", 0, span(30, 40), 0, 9, api.Span{}},
		{"in the other one's own slot", 1, span(30, 40), 0, 9, span(30, 40)},
		{"of a node that has no slot", 2, span(0, 1000), 0, 9, api.Span{}},
		{"of no node", 3, span(0, 1000), 0, 9, api.Span{}},
		{"of two slots the first one", 0, span(0, 100), 0, 0, span(10, 20)},
		{"of two slots the second one", 0, span(20, 100), 0, 0, span(50, 95)},
		{"over another one's slot", 0, span(25, 55), 0, 0, span(50, 55)},
		{"the next round", 0, span(95, 150), 0, 1, span(110, 120)},
		{"the next round, not looked through", 0, span(95, 150), 0, 0, api.Span{}},
		{"a round ahead, not looked through", 0, span(12, 95), 1, 9, api.Span{}},
		{"rounds from the second one on", 0, span(0, 1000), 1, 9, span(110, 120)},
		{"a round alone", 0, span(0, 1000), 7, 7, span(710, 720)},
		{"a later round", 1, span(635, 1000), 0, 9, span(635, 640)},
		{"from below 0", 0, span(0, 1000), -1, 0, span(10, 20)},
		{"from far below 0", 0, span(110, 1000), -1000, 1, span(110, 120)},
		{"to below 0", 0, span(0, 1000), -5, -1, api.Span{}},
		{"to below from", 0, span(0, 1000), 3, 2, api.Span{}},
		{"from 0, to -1", 0, span(0, 1000), 0, -1, api.Span{}},
		{"sends nothing: from at to", 0, span(15, 15), 0, 9, api.Span{}},
		{"sends nothing: from above to", 0, span(18, 12), 0, 9, api.Span{}},
		{"sends nothing: from above to, on both sides of a slot", 0, span(25, 5), 0, 9, api.Span{}},
		{"sends the zero span", 0, span(0, 0), 0, 9, api.Span{}},
		{"sends ahead of 0", 0, span(-50, -1), 0, 9, api.Span{}},
		{"sends from ahead of 0 on", 0, span(-50, 12), 0, 9, span(10, 12)},
	} {
		t.Run(c.what, func(t *testing.T) {
			passes(t, guard.Guard{Plan: p, Clock: clock(0), Node: c.node}, c.sends, c.from, c.to, c.want)
		})
	}
}

// TestPassesClock: a slot is open by the guard's clock.
func TestPassesClock(t *testing.T) {
	for _, c := range []struct {
		what  string
		clock ticks.Clock
		want  api.Span
	}{
		{"as the time", clock(0), span(110, 115)},
		{"shows more", clock(4), span(106, 115)},
		{"shows less", clock(-4), span(114, 115)},
		{"shows so much less that it is not open yet", clock(-5), api.Span{}},
		{"shows so much more that it is open no more", clock(20), api.Span{}},
		{"faster", ticks.Clock{Num: 11, Den: 10}, span(100, 110)},
		{"slower", ticks.Clock{Num: 20, Den: 21}, api.Span{}},
		{"a bit slower", ticks.Clock{Num: 22, Den: 23}, api.Span{}},
		{"less slow", ticks.Clock{Num: 110, Den: 111}, span(111, 115)},
		{"begins later", ticks.Clock{From: 113, Show: 113, Num: 1, Den: 1}, span(113, 115)},
		{"is not right", ticks.Clock{From: 0, Show: 0, Num: 9, Den: 1}, api.Span{}},
		{"is none", ticks.Clock{}, api.Span{}},
	} {
		t.Run(c.what, func(t *testing.T) {
			passes(t, guard.Guard{Plan: three(), Clock: c.clock}, span(100, 115), 1, 1, c.want)
		})
	}
}

// TestPassesFifty: at most 50 rounds are looked through, from from on, or from 0 on.
func TestPassesFifty(t *testing.T) {
	g := guard.Guard{Plan: alone(10, 2, 5), Clock: clock(0)}
	in := func(round int) api.Span { return span(10*round+2, 10*round+5) }
	for _, c := range []struct {
		from, to, round int
		looked          bool
	}{
		{0, 49, 49, true}, {0, 50, 49, true}, {0, 48, 48, true}, {0, 48, 49, false},
		{0, 50, 50, false}, {0, 51, 50, false}, {0, 1000, 50, false}, {0, greatest, 49, true}, {0, greatest, 50, false},
		{-1, 49, 49, true}, {-1, 50, 49, true}, {-1, 50, 50, false}, {-1, 48, 48, true}, {-1, 48, 49, false},
		{-49, 49, 49, true}, {-50, 49, 49, true}, {-1000, 49, 49, true}, {-1000, 50, 50, false}, {-1000, 0, 0, true},
		{least, 49, 49, true}, {least, greatest, 49, true}, {least, greatest, 50, false}, {least, 0, 0, true}, {least, 0, 1, false},
		{1, 50, 50, true}, {1, 51, 51, false}, {1, 51, 50, true}, {1, 50, 0, false}, {1, greatest, 50, true}, {1, greatest, 51, false},
		{7, 56, 56, true}, {7, 57, 57, false}, {7, 57, 56, true}, {7, 57, 6, false},
		{1000, 1049, 1049, true}, {1000, 1050, 1050, false}, {1000, 1050, 999, false},
		{most/10 - 49, most / 10, most / 10, true}, {most/10 - 50, most / 10, most / 10, false}, {most / 10, greatest, most / 10, true}, {most/10 - 49, greatest, most / 10, true},
	} {
		want := api.Span{}
		if c.looked {
			want = in(c.round)
		}
		passes(t, g, in(c.round), c.from, c.to, want)
	}
}

// TestPassesOverErrors: what does not open is gone over; what comes behind it may.
func TestPassesOverErrors(t *testing.T) {
	p := alone(10, 0, 0)
	p.Slots = []api.Slot{slot(0, most+1, most+2), slot(0, least, greatest), slot(0, 0, most), slot(0, 3, 6), slot(0, 1, 4)}
	g := guard.Guard{Plan: p, Clock: clock(0)}
	passes(t, g, span(0, 9), 0, 0, span(0, 9))          // the third one is the first one that opens
	passes(t, g, span(10, 19), 1, 1, span(13, 16))      // in round 1 that is too long
	passes(t, g, span(11, 13), 1, 1, span(11, 13))      // slot by slot, not time by time
	passes(t, g, span(11, 19), 1, 1, span(13, 16))      // likewise
	passes(t, g, span(10, 100), 1, 5, span(13, 16))     // round by round
	passes(t, g, span(17, 100), 1, 5, span(23, 26))     // likewise
	passes(t, g, span(17, 100), 1, 1, api.Span{})       // no more rounds
	passes(t, g, span(0, 9), -3, 0, span(0, 9))         // from 0 on
	passes(t, g, span(0, most), most, most, api.Span{}) // no such round
	late := guard.Guard{Plan: alone(10, 2, 5), Clock: ticks.Clock{From: most - 20, Show: 0, Num: 1, Den: 1}}
	passes(t, late, span(0, most), 0, 9, span(most-18, most-15))
	passes(t, late, span(most-10, most), 0, 9, span(most-8, most-5))
	passes(t, late, span(most-5, most), 0, 9, api.Span{}) // the one behind would open up to above MaxTime
	backward := alone(10, 0, 0)
	backward.Slots = []api.Slot{slot(0, 6, 2), slot(0, 5, 5), slot(0, 8, 9)}
	passes(t, guard.Guard{Plan: backward, Clock: clock(0)}, span(0, 10), 0, 0, span(8, 9))
}

// TestPassesNode: a slot is a guard's if it has the very number of its node, whether there may be such a node or not.
func TestPassesNode(t *testing.T) {
	numbers := append([]int{2, 15, 16, 17, 31, 32, 63, 64, -2, -16, 1 << 32, -1 << 32}, extremes...)
	for _, node := range numbers {
		for _, other := range numbers {
			p := alone(100, 10, 20)
			p.Slots[0].Node = other
			want := api.Span{}
			if other == node {
				want = span(10, 20)
			}
			passes(t, guard.Guard{Plan: p, Clock: clock(0), Node: node}, span(0, 100), 0, 0, want)
		}
	}
}

// TestPassesManySlots: more slots than a plan may have are looked through nevertheless.
func TestPassesManySlots(t *testing.T) {
	g := guard.Guard{Plan: api.Plan{Round: 10000}, Clock: clock(0)}
	for i := range 1000 {
		g.Plan.Slots = append(g.Plan.Slots, slot(i%3, 5*i+2, 5*i+4))
	}
	for _, i := range []int{0, 30, 33, 99, 999} {
		passes(t, g, span(5*i, 5*i+5), 0, 0, span(5*i+2, 5*i+4))
	}
	passes(t, g, span(5*998, 5*999), 0, 0, api.Span{})
}

// TestPassesRound: with a Round that may not be nothing passes.
func TestPassesRound(t *testing.T) {
	for _, r := range []int{0, -1, least, least + 1} {
		passes(t, guard.Guard{Plan: alone(r, 0, 9), Clock: clock(0)}, span(0, 9), 0, 60, api.Span{})
	}
	passes(t, guard.Guard{Plan: alone(1, 0, 9), Clock: clock(0)}, span(40, 60), 0, 60, span(40, 41)) // round 32 is the first one that reaches it
	passes(t, guard.Guard{Plan: alone(greatest, 0, 9), Clock: clock(0)}, span(0, 60), 0, greatest, span(0, 9))
}

// TestPassesNone: plans with no slots.
func TestPassesNone(t *testing.T) {
	for _, p := range []api.Plan{{}, {Round: 10}, {Round: 10, Slots: []api.Slot{}}, {Nodes: 3, Skew: 1, Round: 10, Frame: 5}} {
		for _, node := range []int{0, 1, -1, least, greatest} {
			passes(t, guard.Guard{Plan: p, Clock: clock(0), Node: node}, span(0, 1000), 0, 60, api.Span{})
		}
	}
	g := guard.Guard{Plan: three(), Clock: clock(0)}
	g.Plan.Slots = g.Plan.Slots[:1] // what stands behind the length is no slot
	passes(t, g, span(20, 100), 0, 0, api.Span{})
}

// TestPassesExtremes: numbers as great and as small as an int can be.
func TestPassesExtremes(t *testing.T) {
	g := guard.Guard{Plan: three(), Clock: clock(0)}
	passes(t, g, span(least, greatest), least, greatest, span(10, 20))
	passes(t, g, span(greatest, least), least, greatest, api.Span{})
	passes(t, g, span(least, 11), 0, 9, span(10, 11))
	passes(t, g, span(19, greatest), 0, 9, span(19, 20))
	for _, node := range []int{least, least + 1, -1, 3, greatest} {
		g.Node = node
		passes(t, g, span(least, greatest), least, greatest, api.Span{})
	}
	for _, from := range extremes {
		for _, to := range extremes {
			for _, a := range extremes {
				for _, b := range extremes {
					g.Node = 0
					passes(t, g, span(a, b), from, to, passesLike(g, span(a, b), from, to))
				}
			}
		}
	}
}

// clock is a drawn one, now and then one that may not be.
func (d *die) clock() ticks.Clock {
	den := 1 + d.n(60)
	c := ticks.Clock{From: d.n(200), Show: d.n(400) - 200, Num: max(1, den-den/4+d.n(den/2+1)), Den: den}
	switch d.n(12) {
	case 0:
		c.From = d.any(extremes)
	case 1:
		c.Show = d.any(extremes)
	case 2:
		c.Num = d.any(extremes)
	case 3:
		c.Num, c.Den = 1+d.n(2), 1+d.n(2)
	}
	return c
}

// near is a number not far from another one, now and then one as far off as numbers go.
func (d *die) near(n, least, most int) int {
	if d.n(20) == 0 {
		return d.any(extremes)
	}
	return n + least + d.n(most-least+1)
}

// wild is a guard whose plan mostly may not be.
func (d *die) wild() guard.Guard {
	g := guard.Guard{Clock: d.clock(), Node: d.n(3)}
	g.Plan.Round = d.near(0, -3, 200)
	for range d.n(9) {
		from := d.near(0, -40, 200)
		g.Plan.Slots = append(g.Plan.Slots, slot(d.n(3), from, d.near(from%1000, -5, 60)))
	}
	return g
}

// round is a drawn one: near, at the last one that there is, or as far off as numbers go.
func (d *die) round(length int) int {
	if d.n(8) == 0 {
		return most/max(1, length) + d.n(5) - 2
	}
	return d.near(0, -9, 80)
}

func TestDrawn(t *testing.T) {
	d := die(5)
	found, open := 0, 0
	for range 6000 {
		g := d.wild()
		round, slot := d.round(g.Plan.Round), d.n(len(g.Plan.Slots)+2)-1
		want, no := opensLike(g, round, slot)
		opens(t, g, round, slot, want, no)
		sends := span(d.near(0, -100, 3000), d.near(0, -100, 6000))
		if no == api.OK && d.n(2) == 0 { // near the slot that was asked
			sends = span(want.From+d.n(9)-4, want.To+d.n(9)-4)
		}
		from, to := d.near(round, -60, 5), d.near(round, -5, 60)
		passed := passesLike(g, sends, from, to)
		passes(t, g, sends, from, to, passed)
		if no == api.OK {
			open++
		}
		if (passed != api.Span{}) {
			found++
		}
	}
	if open < 1000 || found < 1000 {
		t.Errorf("of 6000 cases only %d open, and only %d pass", open, found)
	}
}

// 5.2

// neighbours is a plan that may be, of two nodes whose slots are as near as they may be: each other's, and over the end of a round.
func neighbours(skew, wide int) api.Plan {
	p := api.Plan{Nodes: 2, Skew: skew, Frame: 1}
	at := 0
	for i := range 4 {
		p.Slots = append(p.Slots, slot(i%2, at, at+wide))
		at += wide + skew + 1
	}
	p.Round = at
	return p
}

// passed is all that passes a guard of what is sent from 0 to end, in rounds below so many.
func passed(g guard.Guard, end, rounds int) []api.Span {
	var l []api.Span
	for round := range rounds {
		sends := span(0, end)
		for s, ok := g.Passes(sends, round, round); ok; s, ok = g.Passes(sends, round, round) {
			l = append(l, s)
			sends.From = s.To
		}
	}
	return l
}

// together are the times at which something passes both guards.
func together(a, b guard.Guard, end, rounds int) []int {
	var both []int
	of := make([]int, end) // bits: whose is passing
	for i, g := range []guard.Guard{a, b} {
		for _, s := range passed(g, end, rounds) {
			for at := s.From; at < s.To; at++ {
				of[at] |= 1 << i
			}
		}
	}
	for at, bits := range of {
		if bits == 3 {
			both = append(both, at)
		}
	}
	return both
}

// while is how long, from 0 on, what two clocks show is at most so far apart, where both show something.
func while(a, b ticks.Clock, apart, end int) int {
	for at := range end {
		x, no := a.Local(at)
		y, nor := b.Local(at)
		if no == nil && nor == nil && max(x-y, y-x) > apart {
			return at
		}
	}
	return end
}

// TestNoTwoExactlySkew: two guards, whose clocks are exactly Skew apart, whichever is ahead, with slots as near as they may be.
func TestNoTwoExactlySkew(t *testing.T) {
	for skew := 1; skew <= 20; skew++ {
		for _, wide := range []int{1, 2, 5, 30} {
			p := neighbours(skew, wide)
			if err := plan.Check(p); err != nil {
				t.Fatalf("Check(%v): %v", p, err)
			}
			for _, rate := range [][2]int{{1, 1}, {2, 1}, {1, 2}, {3, 2}, {2, 3}, {101, 100}, {99, 100}} {
				for apart := -skew; apart <= skew; apart++ {
					a := guard.Guard{Plan: p, Clock: ticks.Clock{Show: 0, Num: rate[0], Den: rate[1]}, Node: 0}
					b := guard.Guard{Plan: p, Clock: ticks.Clock{Show: apart, Num: rate[0], Den: rate[1]}, Node: 1}
					end := 3 * p.Round
					if got := while(a.Clock, b.Clock, skew, end); got != end {
						t.Fatalf("%v and %v are more than %d apart at %d", a.Clock, b.Clock, skew, got)
					}
					if l := together(a, b, end, 8); len(l) > 0 {
						t.Errorf("Skew %d, slots of %d, clocks %v and %v: both pass at %v", skew, wide, a.Clock, b.Clock, l)
					}
				}
			}
		}
	}
}

// TestNoTwoHowNear: with clocks exactly Skew apart one time is left between the two slots; one more, and they touch; one more, and they meet. So the tests of 5.2 ask at the edge.
func TestNoTwoHowNear(t *testing.T) {
	const skew, wide = 4, 6
	p := neighbours(skew, wide)
	for more, free := range []int{1, 0, -1} {
		first := guard.Guard{Plan: p, Clock: clock(0), Node: 0}
		second := guard.Guard{Plan: p, Clock: clock(skew + more), Node: 1}
		a, ok := first.Passes(span(0, 1000), 2, 2)
		b, nor := second.Passes(span(0, 1000), 2, 2)
		if !ok || !nor || b.From-a.To != free {
			t.Errorf("clocks Skew + %d apart: %v, %v and %v, %v, want %d between them", more, a, ok, b, nor, free)
		}
		// Over the end of a round: the last slot is node 1's, the first one of the next round node 0's.
		first.Clock, second.Clock = clock(skew+more), clock(0)
		a, ok = second.Passes(span(2*p.Round, 3*p.Round), 2, 2)
		for next, more := a, ok; more; next, more = second.Passes(span(a.To, 3*p.Round), 2, 2) {
			a = next
		}
		b, nor = first.Passes(span(0, 9*p.Round), 3, 3)
		if !ok || !nor || b.From-a.To != free {
			t.Errorf("clocks Skew + %d apart, over the end of a round: %v, %v and %v, %v, want %d between them", more, a, ok, b, nor, free)
		}
		want := 0
		if free < 0 {
			want = 1
		}
		if got := min(1, len(together(first, second, 5*p.Round, 6))); got != want {
			t.Errorf("clocks Skew + %d apart: at once %d, want %d", more, got, want)
		}
	}
}

// may is a drawn plan that may be, with several nodes.
func (d *die) may() api.Plan {
	p := api.Plan{Nodes: 2 + d.n(4), Jitter: d.n(3), Drift: d.n(3), Frame: 1}
	p.Skew = 2*(2*p.Jitter+2*p.Drift+1) + d.n(6)
	at := d.n(5)
	for range 1 + d.n(8) {
		wide := 1 + d.n(20)
		p.Slots = append(p.Slots, slot(d.n(p.Nodes), at, at+wide))
		at += wide + p.Skew + 1 + d.n(3)/2*d.n(9)
	}
	p.Round = at + d.n(3)/2*d.n(30)
	return p
}

// pair is two clocks that are near each other, at least to begin with: they begin at any time, and go alike, or nearly so.
func (d *die) pair(skew int) (a, b ticks.Clock) {
	a = ticks.Clock{From: d.n(40), Show: d.n(80) - 40, Den: 1 + d.n(400)}
	a.Num = max(1, a.Den-a.Den/3+d.n(2*a.Den/3+1))
	b = a
	b.From += d.n(60)
	b.Show, _ = a.Local(b.From)
	b.Show += []int{-skew, skew, d.n(2*skew+1) - skew}[d.n(3)]
	if d.n(2) == 0 {
		b.Num = max(1, b.Num+d.n(5)-2)
	}
	if d.n(2) == 0 {
		return b, a
	}
	return a, b
}

// TestNoTwoAtOnce: drawn plans and clocks, while what they show is not more than Skew apart: all that passes of what is sent until then.
func TestNoTwoAtOnce(t *testing.T) {
	d := die(11)
	long, apart := 0, 0
	for range 1500 {
		p := d.may()
		if err := plan.Check(p); err != nil {
			t.Fatalf("Check(%v): %v", p, err)
		}
		a, b := d.pair(p.Skew)
		end := while(a, b, p.Skew, 4*p.Round)
		one := d.n(p.Nodes)
		other := (one + 1 + d.n(p.Nodes-1)) % p.Nodes
		g, h := guard.Guard{Plan: p, Clock: a, Node: one}, guard.Guard{Plan: p, Clock: b, Node: other}
		if l := together(g, h, end, 12); len(l) > 0 {
			t.Errorf("%v and %v: both pass at %v", g, h, l)
		}
		if end > p.Round && len(passed(g, end, 12)) > 0 && len(passed(h, end, 12)) > 0 {
			long++
		}
		if end < 4*p.Round && len(together(g, h, 4*p.Round, 12)) > 0 {
			apart++
		}
	}
	if long < 300 {
		t.Errorf("only %d of the drawn guards let something pass, for at least a round", long)
	}
	t.Logf("%d let something pass; %d would be at once, had they been asked longer", long, apart)
}

// TestNoTwoOfDrawnSends: what is sent is anything, and asked over any rounds.
func TestNoTwoOfDrawnSends(t *testing.T) {
	d := die(13)
	both := 0
	for range 4000 {
		p := d.may()
		a, b := d.pair(p.Skew)
		end := while(a, b, p.Skew, 4*p.Round)
		one := d.n(p.Nodes)
		g, h := guard.Guard{Plan: p, Clock: a, Node: one}, guard.Guard{Plan: p, Clock: b, Node: (one + 1) % p.Nodes}
		from, middle := d.n(end+1), d.n(end+1)
		x, ok := g.Passes(span(from, end), d.n(4)-1, d.n(9))
		y, nor := h.Passes(span(middle, end), d.n(4)-1, d.n(9))
		if ok && nor {
			both++
		}
		if ok && nor && max(x.From, y.From) < min(x.To, y.To) {
			t.Errorf("%v and %v: %v and %v at once", g, h, x, y)
		}
	}
	if both < 300 {
		t.Errorf("of 4000 only %d let both pass", both)
	}
}

// TestNoTwoFarOff: likewise near MaxTime, with numbers as great as a plan's may be.
func TestNoTwoFarOff(t *testing.T) {
	const longest = most / 8
	p := api.Plan{Nodes: 2, Skew: longest / 4, Round: longest, Frame: 1}
	p.Slots = []api.Slot{slot(0, 0, 7), slot(1, 7+p.Skew+1, p.Round-p.Skew-1)}
	if err := plan.Check(p); err != nil {
		t.Fatalf("Check(%v): %v", p, err)
	}
	for _, skew := range []int{p.Skew, -p.Skew} {
		g := guard.Guard{Plan: p, Clock: clock(0), Node: 0}
		h := guard.Guard{Plan: p, Clock: clock(skew), Node: 1}
		passes := 0
		for _, x := range passed(g, most, 9) {
			for _, y := range passed(h, most, 9) {
				passes++
				if ticks.Meet(x, y) {
					t.Errorf("clocks %d apart: %v and %v at once", skew, x, y)
				}
			}
		}
		if passes < 49 {
			t.Errorf("clocks %d apart: only %d pairs pass", skew, passes)
		}
	}
}
