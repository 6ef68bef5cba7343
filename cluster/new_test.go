package cluster_test

import (
	"fmt"
	"slices"
	"testing"

	"metronome/api"
	"metronome/cluster"
	"metronome/plain"
	"metronome/plan"
)

// 10.1: New

func TestNew(t *testing.T) {
	b := start(t, four(), 0, []int{7, 3, 23, 9})
	b.shows(t, 7, 3, 23, 9)
	b.takes(t, 15, 15, 15, 15)
	if s, n := b.c.Spread(), b.c.Rounds(); s != 20 || n != 0 {
		t.Errorf("Spread, Rounds: %d, %d, want 20, 0", s, n)
	}
	for nodes := 1; nodes <= api.MaxNodes; nodes++ {
		b := start(t, few(nodes), 0, alike(nodes, -5))
		b.takes(t, alike(nodes, everyone(nodes))...)
	}
	start(t, api.Plan{Nodes: 1, Skew: 1, Round: 1, Frame: 1}, 0, []int{0}).rounds(t, 3) // nothing but a node
}

// TestNewTellsWhatCheckSays: of a plan that may not be, whatever else is wrong.
func TestNewTellsWhatCheckSays(t *testing.T) {
	for _, c := range []struct {
		name   string
		change func(p *api.Plan)
		want   api.Errno
		place  int
	}{
		{"no nodes", func(p *api.Plan) { p.Nodes = 0 }, api.ErrArg, whole},
		{"too many nodes", func(p *api.Plan) { p.Nodes = 17 }, api.ErrArg, whole},
		{"very many nodes", func(p *api.Plan) { p.Nodes = greatest }, api.ErrArg, whole},
		{"fewer than no nodes", func(p *api.Plan) { p.Nodes = least }, api.ErrArg, whole},
		{"too many faulty", func(p *api.Plan) { p.Faulty = 2 }, api.ErrArg, whole},
		{"Faulty below 0", func(p *api.Plan) { p.Faulty = -1 }, api.ErrArg, whole},
		{"Skew", func(p *api.Plan) { p.Skew = longest + 1 }, api.ErrRange, whole},
		{"Round", func(p *api.Plan) { p.Round = 0 }, api.ErrRange, whole},
		{"Frame", func(p *api.Plan) { p.Frame = 0 }, api.ErrRange, whole},
		{"too many slots", func(p *api.Plan) { p.Slots = make([]api.Slot, 33) }, api.ErrLimit, whole},
		{"too many links", func(p *api.Plan) { p.Links = make([]api.Link, 9) }, api.ErrLimit, whole},
		{"clocks would not stay together", func(p *api.Plan) { p.Jitter = 9 }, api.ErrFalse, whole},
		{"slot 0", func(p *api.Plan) { p.Slots[0].To = 10 }, api.ErrArg, 0},
		{"slot 1", func(p *api.Plan) { p.Slots[1].From = 40 }, api.ErrOrder, 1},
		{"slot 3's end", func(p *api.Plan) { p.Slots[3].To = 180 }, api.ErrRange, 3},
		{"slot 3's node", func(p *api.Plan) { p.Slots[3].Node = 4 }, api.ErrMissing, 3},
		{"link 0's node", func(p *api.Plan) { p.Links[0].From = 4 }, api.ErrMissing, 1000},
		{"link 1 to itself", func(p *api.Plan) { p.Links[1].To = 4 }, api.ErrArg, 1001},
		{"link 1's Bag", func(p *api.Plan) { p.Links[1].Bag = 0 }, api.ErrRange, 1001},
		{"link 1's Queue", func(p *api.Plan) { p.Links[1].Queue = 17 }, api.ErrRange, 1001},
		{"window 0", func(p *api.Plan) { p.Windows[0].Part = 6 }, api.ErrMissing, 2000},
		{"window 1", func(p *api.Plan) { p.Windows[1].From = 8 }, api.ErrOrder, 2001},
	} {
		p := linked(api.Link{From: 0, To: 2, Bag: 1, Queue: 1}, api.Link{From: 2, To: 1, Bag: 1, Queue: 1})
		start(t, p, 8, alike(4, 0))
		c.change(&p)
		refuses(t, c.name, p, 0, alike(4, 0), c.want, c.place)
		refuses(t, c.name+", and more faulty", p, 15, alike(4, 0), c.want, c.place)
		refuses(t, c.name+", and no clocks", p, 0, nil, c.want, c.place)
		refuses(t, c.name+", and a clock", p, 0, []int{0, 0, 0, greatest}, c.want, c.place)
		refuses(t, c.name+", and all else", p, least, []int{greatest}, c.want, c.place)
	}
}

// TestNewFaulty: as many bits as Faulty, and of nodes.
func TestNewFaulty(t *testing.T) {
	for nodes := 1; nodes <= api.MaxNodes; nodes++ {
		p := few(nodes)
		for p.Faulty = 0; 3*p.Faulty+1 <= nodes; p.Faulty++ {
			for faulty := range 1 << nodes {
				if setOf(faulty).many() <= p.Faulty {
					if c, err := cluster.New(p, faulty, alike(nodes, 0)); err != nil || c == nil {
						t.Errorf("New of %d nodes, Faulty %d, faulty %b: %v", nodes, p.Faulty, faulty, err)
					}
				} else if setOf(faulty).many() == p.Faulty+1 || faulty == everyone(nodes) {
					refuses(t, "too many", p, faulty, alike(nodes, 0), api.ErrArg, whole)
				}
			}
		}
	}
}

// many is how many nodes are in a set.
func (s set) many() (n int) {
	for _, in := range s {
		if in {
			n++
		}
	}
	return n
}

// TestNewFaultyNobody: bits of no node, one alone, too, and below 0.
func TestNewFaultyNobody(t *testing.T) {
	for nodes := 4; nodes <= api.MaxNodes; nodes++ {
		p := few(nodes)
		p.Faulty = (nodes - 1) / 3
		for k := range 64 {
			if k < nodes {
				start(t, p, 1<<k, alike(nodes, 0))
				continue
			}
			refuses(t, "a bit of no node", p, 1<<k, alike(nodes, 0), api.ErrArg, whole)
			if p.Faulty > 1 {
				refuses(t, "a bit of no node, and one of one", p, 1<<k|1<<(nodes-1), alike(nodes, 0), api.ErrArg, whole)
			}
		}
		for _, faulty := range []int{least, least + 1, least / 2, -1 << 40, -1 << nodes, -(1 << nodes) + 1, -2, -1, greatest, greatest - 1, greatest / 2} {
			refuses(t, "no bits of nodes", p, faulty, alike(nodes, 0), api.ErrArg, whole)
		}
	}
}

func TestNewClocksMissing(t *testing.T) {
	for nodes := 1; nodes <= api.MaxNodes; nodes++ {
		for _, many := range []int{0, 1, nodes - 1, nodes + 1, nodes + 2, 16, 17, 1000} {
			if many != nodes {
				refuses(t, "clocks", few(nodes), 0, alike(many, 0), api.ErrMissing, whole)
			}
		}
		refuses(t, "no clocks", few(nodes), 0, nil, api.ErrMissing, whole)
	}
}

// TestNewClocksFar: within MaxTime / 4, also a faulty one's.
func TestNewClocksFar(t *testing.T) {
	for _, far := range []int{quarter, -quarter} {
		on := far / quarter
		for _, faulty := range []int{0, 1, 2, 4, 8} {
			start(t, four(), faulty, alike(4, far)).shows(t, alike(4, far)...)
			for node := range 4 {
				for _, clock := range []int{far + on, far + 2*on, 2 * far, 4 * far, 4*far + on} {
					l := alike(4, far)
					l[node] = clock
					refuses(t, "one beyond", four(), faulty, l, api.ErrRange, whole)
				}
			}
		}
		for node := range 4 {
			l := alike(4, far)
			l[node] = -far // it is faulty: it may be anywhere within
			start(t, four(), 1<<node, l).shows(t, l...)
			l[node] = -far - on
			refuses(t, "a faulty one beyond", four(), 1<<node, l, api.ErrRange, whole)
		}
	}
	for _, clock := range []int{least, least + 1, least / 2, -latest, latest, greatest / 2, greatest/2 + 1, greatest - 1, greatest} {
		for node := range 4 {
			l := alike(4, 0)
			l[node] = clock
			refuses(t, "far off", four(), 0, l, api.ErrRange, whole)
			refuses(t, "faulty, and far off", four(), 1<<node, l, api.ErrRange, whole)
		}
		refuses(t, "all far off", four(), 0, alike(4, clock), api.ErrRange, whole)
		refuses(t, "far off alone", few(1), 0, []int{clock}, api.ErrRange, whole)
	}
	refuses(t, "apart from end to end", four(), 0, []int{least, greatest, least, greatest}, api.ErrRange, whole)
	refuses(t, "apart from end to end, but one", four(), 0, []int{least, greatest, least, least + 1}, api.ErrRange, whole)
}

// TestNewClocksApart: those that are not faulty at most Skew.
func TestNewClocksApart(t *testing.T) {
	for _, skew := range []int{18, 19, 20, 1000, longest} {
		p := four()
		p.Skew, p.Round = skew, longest
		p.Slots = nil
		for a := range 4 {
			for b := range 4 {
				if a == b {
					continue
				}
				for _, from := range []int{0, -skew / 2, quarter - skew - 1, -quarter} {
					l := alike(4, from+skew/2)
					l[a], l[b] = from, from+skew
					start(t, p, 0, l)
					l[b]++
					refuses(t, "one more", p, 0, l, api.ErrRange, whole)
					for k := range 4 {
						if k == a || k == b { // what is too far off is faulty
							start(t, p, 1<<k, l)
						} else {
							refuses(t, "another one is faulty", p, 1<<k, l, api.ErrRange, whole)
						}
					}
				}
			}
		}
	}
	p := few(2)
	start(t, p, 0, []int{10, 0})
	refuses(t, "of two", p, 0, []int{11, 0}, api.ErrRange, whole)
	refuses(t, "of two", p, 0, []int{0, 11}, api.ErrRange, whole)
}

// TestNewWhichError: what is told first is answered.
func TestNewWhichError(t *testing.T) {
	for _, c := range []struct {
		name   string
		faulty int
		clocks []int
		want   api.Errno
	}{
		{"too many faulty, no clocks", 3, nil, api.ErrArg},
		{"too many faulty, a clock too far", 3, []int{0, 0, 0, greatest}, api.ErrArg},
		{"faulty nobody, clocks too far apart", 16, []int{0, 0, 0, 21}, api.ErrArg},
		{"faulty below 0, no clocks", -1, nil, api.ErrArg},
		{"too few clocks, one too far", 0, []int{0, 0, greatest}, api.ErrMissing},
		{"too many clocks, one too far", 0, []int{0, 0, 0, 0, quarter + 1}, api.ErrMissing},
		{"too few clocks, too far apart", 0, []int{0, 0, 21}, api.ErrMissing},
		{"a clock too far, and so apart", 0, []int{0, 0, 0, quarter + 1}, api.ErrRange},
	} {
		refuses(t, c.name, four(), c.faulty, c.clocks, c.want, whole)
	}
}

// TestNewDrawnPlans: of any plan New tells what Check says.
func TestNewDrawnPlans(t *testing.T) {
	d, told := die(5), map[api.Errno]int{}
	for range 3000 {
		p := d.plan()
		d.spoil(&p)
		e, place := plain.Place(plan.Check(p))
		told[e]++
		if e == api.OK {
			start(t, p, 0, alike(p.Nodes, 0))
		} else {
			refuses(t, "spoilt", p, 0, alike(max(p.Nodes, 0), 0), e, place)
		}
	}
	for _, e := range []api.Errno{api.OK, api.ErrArg, api.ErrRange, api.ErrOrder, api.ErrMissing, api.ErrFalse} {
		if told[e] == 0 {
			t.Errorf("error %d was never told: the test says nothing of it", e)
		}
	}
}

// spoil changes one number of a plan, or none.
func (d *die) spoil(p *api.Plan) {
	numbers := []*int{&p.Nodes, &p.Faulty, &p.Skew, &p.Jitter, &p.Drift, &p.Round, &p.Frame}
	for i := range p.Slots {
		numbers = append(numbers, &p.Slots[i].Node, &p.Slots[i].From, &p.Slots[i].To)
	}
	for i := range p.Links {
		numbers = append(numbers, &p.Links[i].From, &p.Links[i].To, &p.Links[i].Bag, &p.Links[i].Queue)
	}
	n := numbers[d.n(len(numbers))]
	switch d.n(3) {
	case 0:
		*n += d.around(20)
	case 1:
		if *n = d.any(extremes); n == &p.Nodes {
			*n = d.around(20)
		}
	}
}

// 10.1: Clocks, Spread, Rounds

// TestClocksAreTheCallers: what is given out is fresh each time, and what was handed in is not kept.
func TestClocksAreTheCallers(t *testing.T) {
	l := []int{1, 2, 3, 4}
	c, err := cluster.New(four(), 0, l)
	no(t, "New", err, api.OK)
	l[0] = 9
	one, other := c.Clocks(), c.Clocks()
	one[1], other[2] = 9, 9
	if again := c.Clocks(); !slices.Equal(again, []int{1, 2, 3, 4}) || !slices.Equal(one, []int{1, 9, 3, 4}) || !slices.Equal(other, []int{1, 2, 9, 4}) {
		t.Errorf("lists share memory: %v, %v, %v", again, one, other)
	}
	no(t, "Play", c.Play(cluster.Round{}), api.OK)
	if !slices.Equal(one, []int{1, 9, 3, 4}) {
		t.Errorf("Play writes into what was given out: %v", one)
	}
	after := c.Clocks()
	after[0] = 99
	if again := c.Clocks(); again[0] != 2 {
		t.Errorf("behind a round lists share memory: %v", again)
	}
}

// TestSpread is of those that are not faulty alone.
func TestSpread(t *testing.T) {
	for _, c := range []struct {
		faulty int
		clocks []int
		want   int
	}{
		{0, []int{5, 5, 5, 5}, 0},
		{0, []int{-5, 5, 0, 1}, 10},
		{0, []int{5, 4, 3, -5}, 10},
		{0, []int{0, -7, 13, 0}, 20},
		{1, []int{999, 4, 9, 7}, 5},
		{2, []int{4, -999, 9, 7}, 5},
		{4, []int{4, 9, quarter, 7}, 5},
		{8, []int{7, 4, 9, -quarter}, 5},
		{8, []int{7, 7, 7, 8}, 0},
	} {
		if s := start(t, four(), c.faulty, c.clocks).c.Spread(); s != c.want {
			t.Errorf("Spread of %v, faulty %b: %d, want %d", c.clocks, c.faulty, s, c.want)
		}
	}
	if s := start(t, few(1), 0, []int{-9}).c.Spread(); s != 0 {
		t.Errorf("Spread of one: %d", s)
	}
}

func TestRounds(t *testing.T) {
	b := start(t, four(), 0, alike(4, 0))
	for want := range 300 {
		if n := b.c.Rounds(); n != want {
			t.Errorf("Rounds: %d, want %d", n, want)
		}
		b.play(t, cluster.Round{})
	}
}

// 10.1: Members, Put, Receive

func TestMembersRange(t *testing.T) {
	for nodes := 1; nodes <= api.MaxNodes; nodes++ {
		b := start(t, few(nodes), 0, alike(nodes, 0))
		for _, node := range append([]int{-1, nodes, nodes + 1, 16, 17, 31, 32}, extremes...) {
			if 0 <= node && node < nodes {
				continue
			}
			m, frozen, err := b.c.Members(node)
			no(t, fmt.Sprintf("Members(%d) of %d", node, nodes), err, api.ErrRange)
			if m != 0 || frozen {
				t.Errorf("Members(%d) of %d: %b, %t beside an error", node, nodes, m, frozen)
			}
		}
		for _, node := range []int{0, nodes - 1} {
			if m, frozen, err := b.c.Members(node); m != everyone(nodes) || frozen || err != nil {
				t.Errorf("Members(%d) of %d: %b, %t, %v", node, nodes, m, frozen, err)
			}
		}
	}
}

// TestPutRange: of links that are none, ahead of what is wrong with the message.
func TestPutRange(t *testing.T) {
	for links := range api.MaxLinks + 1 {
		p := four()
		for k := range links {
			p.Links = append(p.Links, api.Link{From: k % 4, To: 1 << ((k + 1) % 4), Bag: 1, Queue: 1})
		}
		b := start(t, p, 0, alike(4, 0))
		for _, link := range append([]int{-1, links, links + 1, 8, 9}, extremes...) {
			if 0 <= link && link < links {
				continue
			}
			for _, data := range []string{"", "a", long(40), long(41)} {
				no(t, fmt.Sprintf("Put(%d) of %d", link, links), b.c.Put(link, data), api.ErrRange)
			}
		}
		for k := range links {
			b.puts(t, k, "m")
		}
		b.rounds(t, 2)
		for k := range links {
			b.has(t, (k+1)%4, k, "m")
		}
	}
}

// TestPut: what its Sender says, and that messages of a link wait by themselves.
func TestPut(t *testing.T) {
	b := start(t, linked(api.Link{From: 0, To: 2, Bag: 1, Queue: 2}, api.Link{From: 0, To: 2, Bag: 1, Queue: 1}), 0, alike(4, 0))
	put := func(link int, data string, want api.Errno) {
		t.Helper()
		no(t, fmt.Sprintf("Put(%d, %.3s..)", link, data), b.c.Put(link, data), want)
		if e := b.m.put(link, data); e != want {
			t.Errorf("the second reckoning of Put(%d, %.3s..): %d, want %d", link, data, e, want)
		}
	}
	put(0, long(41), api.ErrLimit)
	put(0, long(1000), api.ErrLimit)
	put(0, "", api.OK)
	put(0, long(41), api.ErrLimit)
	put(0, long(40), api.OK)
	put(0, "c", api.ErrFull)
	put(0, long(41), api.ErrLimit) // told ahead of what is full
	put(1, "d", api.OK)
	put(1, "e", api.ErrFull)
	b.rounds(t, 1) // one of them goes
	put(0, "\x00\n\xff ", api.OK)
	put(0, "f", api.ErrFull)
	put(1, "g", api.ErrFull)
	b.rounds(t, 3)
	b.has(t, 1, 0, "", long(40), "\x00\n\xff ")
	b.has(t, 1, 1, "d")
}

// TestReceiveRange: nodes and links that are none, and links that do not go there.
func TestReceiveRange(t *testing.T) {
	b := start(t, linked(api.Link{From: 0, To: 6, Bag: 1, Queue: 9}, api.Link{From: 3, To: 5, Bag: 1, Queue: 9}), 0, alike(4, 0))
	b.puts(t, 0, "a", "b")
	b.puts(t, 1, "c", "d")
	b.rounds(t, 2)
	bad := append([]int{-1, 4, 5, 8, 16}, extremes...)
	for _, n := range bad {
		for k := range 4 {
			b.nothing(t, n, k, api.ErrRange)
			b.nothing(t, k, n, api.ErrRange)
		}
		for _, m := range bad {
			b.nothing(t, n, m, api.ErrRange)
		}
	}
	for node := range 4 {
		b.nothing(t, node, 2, api.ErrRange)
	}
	for _, x := range [][2]int{{0, 0}, {3, 0}, {1, 1}, {3, 1}} { // its own node, and others
		b.nothing(t, x[0], x[1], api.ErrRange)
	}
	b.has(t, 1, 0, "a", "b")
	b.has(t, 2, 0, "a", "b")
	b.has(t, 0, 1, "c", "d")
	b.has(t, 2, 1, "c", "d")
	b.same(t)
	without := start(t, four(), 0, alike(4, 0))
	for node := range 4 {
		without.nothing(t, node, 0, api.ErrRange)
	}
}

// TestErrorsChangeNothing: a cluster that is asked much that is wrong goes on like one that is not.
func TestErrorsChangeNothing(t *testing.T) {
	p := linked(api.Link{From: 0, To: 14, Bag: 100, Queue: 2}, api.Link{From: 2, To: 1, Bag: 1, Queue: 1})
	asked, plainly := start(t, p, 8, alike(4, quarter)), start(t, p, 8, alike(4, quarter))
	wrong := func() {
		for _, n := range extremes {
			asked.c.Members(n)
			asked.c.Put(n, "x")
			asked.c.Receive(n, 0)
			asked.c.Receive(0, n)
		}
		asked.c.Put(0, long(41))
		asked.c.Receive(0, 0)
		for _, drift := range []int{1, 2, greatest} {
			r := cluster.Round{Drifts: []int{drift, drift, drift, drift}, Losses: toNobody(0), Modes: alike(4, cluster.Mute)}
			no(t, "Play beyond", asked.c.Play(r), api.ErrState)
		}
	}
	for k := range 10 {
		wrong()
		for _, b := range []*both{asked, plainly} {
			b.put(t, 0, fmt.Sprint("m", k))
			b.put(t, 1, fmt.Sprint("n", k))
			b.play(t, cluster.Round{Losses: []cluster.Loss{{Slot: k % 4, Channel: 0, To: -1}}})
		}
		wrong()
	}
	asked.drain(t)
	plainly.drain(t)
}
