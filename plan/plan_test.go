package plan_test

import (
	"math"
	"reflect"
	"testing"

	"metronome/api"
	"metronome/plain"
	"metronome/plan"
)

const (
	longest  = api.MaxTime / 8
	least    = math.MinInt
	greatest = math.MaxInt
)

// whole, an error's place where it has none.
const whole = -1

func slot(node, from, to int) api.Slot {
	return api.Slot{Node: node, Span: api.Span{From: from, To: to}}
}

func window(part, from, to int) api.Window {
	return api.Window{Part: part, Span: api.Span{From: from, To: to}}
}

// right is a plan that may be, and of which nearly nothing lies at a bound.
func right() api.Plan {
	return api.Plan{
		Nodes: 4, Faulty: 1, Skew: 14, Jitter: 1, Drift: 1, Round: 103,
		Slots:   []api.Slot{slot(2, 3, 10), slot(0, 30, 40), slot(2, 58, 60)},
		Links:   []api.Link{{From: 1, To: 1 | 8, Bag: 50, Queue: 3}, {From: 0, To: 4, Bag: 1000, Queue: 2}},
		Frame:   90,
		Windows: []api.Window{window(2, 5, 10), window(0, 12, 20), window(2, 20, 80)},
	}
}

// great is a plan of which all numbers are as great as they may be.
func great() api.Plan {
	p := api.Plan{Nodes: api.MaxNodes, Faulty: 5, Skew: 8, Jitter: 1, Round: longest, Frame: longest}
	for i := range api.MaxSlots {
		far := api.MaxSlots - 1 - i
		p.Slots = append(p.Slots, slot(api.MaxNodes-1, longest-9-100*far-50, longest-9-100*far))
		p.Windows = append(p.Windows, window(api.MaxParts-1, longest-100*far-100, longest-100*far))
	}
	for range api.MaxLinks {
		p.Links = append(p.Links, api.Link{From: 0, To: 1<<api.MaxNodes - 2, Bag: longest, Queue: api.MaxQueue})
	}
	return p
}

// copied is a plan with lists of its own, with room behind them in which spoilt rows lie.
func copied(p api.Plan) api.Plan {
	p.Slots = append(append([]api.Slot{}, p.Slots...), slot(-7, -7, -7))[:len(p.Slots)]
	p.Links = append(append([]api.Link{}, p.Links...), api.Link{From: -7})[:len(p.Links)]
	p.Windows = append(append([]api.Window{}, p.Windows...), window(-7, -7, -7))[:len(p.Windows)]
	return p
}

// behind is what lies behind the lists that copied made.
func behind(p api.Plan) bool {
	return p.Slots[:len(p.Slots)+1][len(p.Slots)] == slot(-7, -7, -7) &&
		p.Links[:len(p.Links)+1][len(p.Links)] == api.Link{From: -7} &&
		p.Windows[:len(p.Windows)+1][len(p.Windows)] == window(-7, -7, -7)
}

// asks checks what Check and Encode tell of a plan, and that they leave it as it was.
func asks(t *testing.T, name string, p api.Plan, want api.Errno, place int) {
	t.Helper()
	kept := copied(p)
	given := copied(p)
	if e, at := plain.Place(plan.Check(given)); e != want || at != place {
		t.Errorf("%s: Check(%+v): error %d at %d, want %d at %d", name, p, e, at, want, place)
	}
	b, err := plan.Encode(given)
	if e, at := plain.Place(err); e != want || at != place {
		t.Errorf("%s: Encode(%+v): error %d at %d, want %d at %d", name, p, e, at, want, place)
	}
	if want != api.OK && b != nil {
		t.Errorf("%s: Encode(%+v): bytes %x beside an error", name, p, b)
	}
	if !reflect.DeepEqual(given, kept) || !behind(given) {
		t.Errorf("%s: the plan reads otherwise afterwards: %+v, was %+v", name, given, kept)
	}
}

func TestRightPlans(t *testing.T) {
	asks(t, "right", right(), api.OK, whole)
	asks(t, "great", great(), api.OK, whole)
	asks(t, "least", api.Plan{Nodes: 1, Skew: 1, Round: 1, Frame: 1}, api.OK, whole)
	asks(t, "empty lists", api.Plan{Nodes: 1, Skew: 1, Round: 1, Frame: 1, Slots: []api.Slot{}, Links: []api.Link{}, Windows: []api.Window{}}, api.OK, whole)
	asks(t, "one of each", api.Plan{
		Nodes: 2, Skew: 1, Round: 3, Slots: []api.Slot{slot(1, 0, 1)},
		Links: []api.Link{{From: 1, To: 1, Bag: 1, Queue: 1}}, Frame: 1, Windows: []api.Window{window(0, 0, 1)},
	}, api.OK, whole)
	asks(t, "nothing", api.Plan{}, api.ErrArg, whole)
}

// bound is one number of a plan, from where to where it may be there, and what is told of it below and above that.
type bound struct {
	name         string
	set          func(p *api.Plan, n int)
	least, most  int
	below, above api.Errno
	place        int
}

// bounds are of numbers of the plan right.
var bounds = []bound{
	{"Nodes", func(p *api.Plan, n int) { p.Nodes = n }, 4, api.MaxNodes, api.ErrArg, api.ErrArg, whole},
	{"Nodes, none faulty", func(p *api.Plan, n int) { *p = api.Plan{Nodes: n, Skew: 1, Round: 1, Frame: 1} }, 1, api.MaxNodes, api.ErrArg, api.ErrArg, whole},
	{"Faulty of 1", func(p *api.Plan, n int) { *p = api.Plan{Nodes: 1, Faulty: n, Skew: 1, Round: 1, Frame: 1} }, 0, 0, api.ErrArg, api.ErrArg, whole},
	{"Faulty of 4", func(p *api.Plan, n int) { p.Faulty = n }, 0, 1, api.ErrArg, api.ErrArg, whole},
	{"Faulty of 6", func(p *api.Plan, n int) { p.Nodes, p.Faulty = 6, n }, 0, 1, api.ErrArg, api.ErrArg, whole},
	{"Faulty of 7", func(p *api.Plan, n int) { p.Nodes, p.Faulty = 7, n }, 0, 2, api.ErrArg, api.ErrArg, whole},
	{"Faulty of 16", func(p *api.Plan, n int) { p.Nodes, p.Faulty = 16, n }, 0, 5, api.ErrArg, api.ErrArg, whole},
	{"Round", func(p *api.Plan, n int) { p.Slots, p.Round = nil, n }, 1, longest, api.ErrRange, api.ErrRange, whole},
	{"Frame", func(p *api.Plan, n int) { p.Windows, p.Frame = nil, n }, 1, longest, api.ErrRange, api.ErrRange, whole},

	{"first slot's From", func(p *api.Plan, n int) { p.Slots[0].From = n }, 0, 9, api.ErrOrder, api.ErrArg, 0},
	{"second slot's From", func(p *api.Plan, n int) { p.Slots[1].From = n }, 25, 39, api.ErrOrder, api.ErrArg, 1},
	{"third slot's From", func(p *api.Plan, n int) { p.Slots[2].From = n }, 55, 59, api.ErrOrder, api.ErrArg, 2},
	{"last slot's To", func(p *api.Plan, n int) { p.Slots[2].To = n }, 59, 88, api.ErrArg, api.ErrRange, 2},
	{"only slot's To", func(p *api.Plan, n int) { p.Slots = []api.Slot{slot(0, 0, n)} }, 1, 88, api.ErrArg, api.ErrRange, 0},
	{"slot's Node", func(p *api.Plan, n int) { p.Slots[1].Node = n }, 0, 3, api.ErrMissing, api.ErrMissing, 1},

	{"link's Bag", func(p *api.Plan, n int) { p.Links[1].Bag = n }, 1, longest, api.ErrRange, api.ErrRange, 1001},
	{"link's Queue", func(p *api.Plan, n int) { p.Links[0].Queue = n }, 1, api.MaxQueue, api.ErrRange, api.ErrRange, 1000},

	{"first window's From", func(p *api.Plan, n int) { p.Windows[0].From = n }, 0, 9, api.ErrOrder, api.ErrArg, 2000},
	{"second window's From", func(p *api.Plan, n int) { p.Windows[1].From = n }, 10, 19, api.ErrOrder, api.ErrArg, 2001},
	{"third window's From", func(p *api.Plan, n int) { p.Windows[2].From = n }, 20, 79, api.ErrOrder, api.ErrArg, 2002},
	{"last window's To", func(p *api.Plan, n int) { p.Windows[2].To = n }, 21, 90, api.ErrArg, api.ErrRange, 2002},
	{"only window's To", func(p *api.Plan, n int) { p.Windows = []api.Window{window(0, 0, n)} }, 1, 90, api.ErrArg, api.ErrRange, 2000},
	{"window's Part", func(p *api.Plan, n int) { p.Windows[1].Part = n }, 0, api.MaxParts - 1, api.ErrMissing, api.ErrMissing, 2001},
}

func TestBounds(t *testing.T) {
	for _, b := range bounds {
		for _, n := range []int{least, b.least - 1, b.least, b.most, b.most + 1, greatest} {
			p := right()
			b.set(&p, n)
			switch {
			case n < b.least:
				asks(t, b.name, p, b.below, b.place)
			case n > b.most:
				asks(t, b.name, p, b.above, b.place)
			default:
				asks(t, b.name, p, api.OK, whole)
			}
		}
	}
}

// apart is a plan without slots whose clocks are so far apart.
func apart(skew, jitter, drift int) api.Plan {
	return api.Plan{Nodes: 1, Skew: skew, Jitter: jitter, Drift: drift, Round: 1, Frame: 1}
}

func TestSkewJitterDrift(t *testing.T) {
	for _, c := range []struct {
		skew, jitter, drift int
		want                api.Errno
	}{
		{-1, 0, 0, api.ErrRange}, {0, -1, 0, api.ErrRange}, {0, 0, -1, api.ErrRange},
		{least, 0, 0, api.ErrRange}, {9, least, 0, api.ErrRange}, {9, 0, least, api.ErrRange},
		{longest + 1, 0, 0, api.ErrRange}, {9, longest + 1, 0, api.ErrRange}, {9, 0, longest + 1, api.ErrRange},
		{greatest, 0, 0, api.ErrRange}, {9, greatest, 0, api.ErrRange}, {9, 0, greatest, api.ErrRange},
		{longest, longest + 1, longest, api.ErrRange}, {longest, longest, longest + 1, api.ErrRange},
		{longest, 0, 0, api.OK}, {longest, longest, 0, api.ErrFalse}, {longest, 0, longest, api.ErrFalse}, {longest, longest, longest, api.ErrFalse},
		// Half of Skew, rounded down, and what is read wrong and drifts are at most Skew.
		{0, 0, 0, api.ErrFalse}, {1, 0, 0, api.OK}, {2, 0, 0, api.OK}, {3, 0, 0, api.OK},
		{4, 1, 0, api.ErrFalse}, {5, 1, 0, api.OK}, {6, 1, 0, api.OK},
		{4, 0, 1, api.ErrFalse}, {5, 0, 1, api.OK}, {6, 0, 1, api.OK},
		{8, 1, 1, api.ErrFalse}, {9, 1, 1, api.OK}, {10, 1, 1, api.OK},
		{20, 2, 3, api.ErrFalse}, {21, 2, 3, api.OK}, {20, 3, 2, api.ErrFalse}, {21, 3, 2, api.OK},
		{longest, longest/4 - 1, 0, api.OK}, {longest, longest / 4, 0, api.ErrFalse},
		{longest, 0, longest/4 - 1, api.OK}, {longest, 0, longest / 4, api.ErrFalse},
		{longest - 3, longest/4 - 1, 0, api.OK}, {longest - 4, longest/4 - 1, 0, api.ErrFalse},
	} {
		asks(t, "apart", apart(c.skew, c.jitter, c.drift), c.want, whole)
	}
}

func TestLinksTo(t *testing.T) {
	for nodes := 1; nodes <= api.MaxNodes; nodes++ {
		for _, from := range []int{-1, 0, nodes / 2, nodes - 1, nodes} {
			for _, to := range []int{
				least, least + 1, -1, 0, 1, 2, 3, 1 << max(from, 0), 1<<nodes - 1, 1<<nodes - 1 - 1<<max(from, 0),
				1 << (nodes - 1), 1 << nodes, 1<<nodes + 1, 1 << 16, 1 << 40, 1 << 62, greatest - 1, greatest,
			} {
				want, place := api.OK, whole
				switch {
				case from < 0 || from >= nodes:
					want, place = api.ErrMissing, 1000
				case to <= 0 || to >= 1<<nodes || to>>from&1 == 1:
					want, place = api.ErrArg, 1000
				}
				p := api.Plan{Nodes: nodes, Skew: 1, Round: 1, Frame: 1, Links: []api.Link{{From: from, To: to, Bag: 1, Queue: 1}}}
				asks(t, "To", p, want, place)
			}
		}
	}
	for _, from := range []int{least, least + 1, 16, 64, greatest} {
		p := right()
		p.Links[1].From = from
		asks(t, "From", p, api.ErrMissing, 1001)
	}
}

func TestHowMany(t *testing.T) {
	p := great()
	asks(t, "as many as may be", p, api.OK, whole)
	for _, c := range []struct {
		name string
		set  func(p *api.Plan)
	}{
		{"slots", func(p *api.Plan) { p.Slots = append([]api.Slot{slot(0, 0, 1)}, p.Slots...) }},
		{"links", func(p *api.Plan) { p.Links = append(p.Links, p.Links[0]) }},
		{"windows", func(p *api.Plan) { p.Windows = append([]api.Window{window(0, 0, 1)}, p.Windows...) }},
		{"spoilt slots", func(p *api.Plan) { p.Slots = make([]api.Slot, api.MaxSlots+1) }},
		{"spoilt links", func(p *api.Plan) { p.Links = make([]api.Link, api.MaxLinks+1) }},
		{"spoilt windows", func(p *api.Plan) { p.Windows = make([]api.Window, api.MaxSlots+1) }},
		{"very many slots", func(p *api.Plan) { p.Slots = make([]api.Slot, 100_000) }},
	} {
		p := great()
		c.set(&p)
		asks(t, c.name, p, api.ErrLimit, whole)
	}
}

// TestGreatestEnds holds the greatest ends against the longest round and frame.
func TestGreatestEnds(t *testing.T) {
	p := great()
	p.Slots[api.MaxSlots-1].To++
	asks(t, "last slot", p, api.ErrRange, api.MaxSlots-1)
	p = great()
	p.Windows[api.MaxSlots-1].To++
	asks(t, "last window", p, api.ErrRange, 2000+api.MaxSlots-1)
	p = great()
	p.Links[api.MaxLinks-1].Queue++
	asks(t, "last link", p, api.ErrRange, 1000+api.MaxLinks-1)
	// A round that is no longer than Skew has room for no slot.
	p = api.Plan{Nodes: 1, Skew: 9, Round: 10, Frame: 1, Slots: []api.Slot{slot(0, 0, 1)}}
	asks(t, "no room", p, api.ErrRange, 0)
	p.Round = 1
	asks(t, "less than no room", p, api.ErrRange, 0)
	p.Round = 11
	asks(t, "room", p, api.OK, whole)
}

// TestFirstTold spoils a plan step by step, from what is told last to what is told first: each step hides those ahead of it.
func TestFirstTold(t *testing.T) {
	p := right()
	for _, c := range []struct {
		name  string
		set   func(p *api.Plan)
		want  api.Errno
		place int
	}{
		{"window 2 of no part", func(p *api.Plan) { p.Windows[2].Part = -1 }, api.ErrMissing, 2002},
		{"window 2 too long", func(p *api.Plan) { p.Windows[2].To = 91 }, api.ErrRange, 2002},
		{"window 2 too soon", func(p *api.Plan) { p.Windows[2].From = 19 }, api.ErrOrder, 2002},
		{"window 2 empty", func(p *api.Plan) { p.Windows[2].To = 19 }, api.ErrArg, 2002},
		{"window 0 of no part", func(p *api.Plan) { p.Windows[0].Part = 6 }, api.ErrMissing, 2000},
		{"window 0 too long", func(p *api.Plan) { p.Windows[0].To = 91 }, api.ErrRange, 2000},
		{"window 0 too soon", func(p *api.Plan) { p.Windows[0].From = -1 }, api.ErrOrder, 2000},
		{"window 0 empty", func(p *api.Plan) { p.Windows[0].To = -1 }, api.ErrArg, 2000},
		{"link 1's queue", func(p *api.Plan) { p.Links[1].Queue = 0 }, api.ErrRange, 1001},
		{"link 1 to itself", func(p *api.Plan) { p.Links[1].To = 5 }, api.ErrArg, 1001},
		{"link 1 from nowhere", func(p *api.Plan) { p.Links[1].From = 4 }, api.ErrMissing, 1001},
		{"link 0's bag", func(p *api.Plan) { p.Links[0].Bag = 0 }, api.ErrRange, 1000},
		{"link 0 to nobody", func(p *api.Plan) { p.Links[0].To = 0 }, api.ErrArg, 1000},
		{"link 0 from nowhere", func(p *api.Plan) { p.Links[0].From = -1 }, api.ErrMissing, 1000},
		{"slot 2 of nobody", func(p *api.Plan) { p.Slots[2].Node = 4 }, api.ErrMissing, 2},
		{"slot 2 too long", func(p *api.Plan) { p.Slots[2].To = 89 }, api.ErrRange, 2},
		{"slot 2 too soon", func(p *api.Plan) { p.Slots[2].From = 54 }, api.ErrOrder, 2},
		{"slot 2 empty", func(p *api.Plan) { p.Slots[2].To = 54 }, api.ErrArg, 2},
		{"slot 0 of nobody", func(p *api.Plan) { p.Slots[0].Node = -1 }, api.ErrMissing, 0},
		{"slot 0 too long", func(p *api.Plan) { p.Slots[0].To = 89 }, api.ErrRange, 0},
		{"slot 0 too soon", func(p *api.Plan) { p.Slots[0].From = -1 }, api.ErrOrder, 0},
		{"slot 0 empty", func(p *api.Plan) { p.Slots[0].To = -2 }, api.ErrArg, 0},
		{"drifts too far", func(p *api.Plan) { p.Drift = 3 }, api.ErrFalse, whole},
		{"too many windows", func(p *api.Plan) { p.Windows = make([]api.Window, 33) }, api.ErrLimit, whole},
		{"no frame", func(p *api.Plan) { p.Frame = 0 }, api.ErrRange, whole},
		{"too many faulty", func(p *api.Plan) { p.Faulty = 2 }, api.ErrArg, whole},
	} {
		c.set(&p)
		asks(t, c.name, p, c.want, c.place)
	}
}
