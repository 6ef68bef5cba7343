package cluster_test

import (
	"fmt"
	"slices"
	"strconv"
	"testing"

	"metronome/api"
	"metronome/cluster"
)

// 10.4: what holds of a cluster. Here the second reckoning is not asked: what is promised is held against what is seen.

// made is a cluster that must be there.
func made(t *testing.T, p api.Plan, faulty int, clocks []int) *cluster.Cluster {
	t.Helper()
	c, err := cluster.New(p, faulty, clocks)
	if err != nil {
		t.Fatalf("New(%+v, %b, %v): %v", p, faulty, clocks, err)
	}
	return c
}

// plays lets a round go by that must.
func plays(t *testing.T, c *cluster.Cluster, r cluster.Round) {
	t.Helper()
	if err := c.Play(r); err != nil {
		t.Fatalf("Play(%+v): %v", r, err)
	}
}

// tight is a plan whose Skew is as small as may be.
func tight(nodes, jitter, drift int) api.Plan {
	p := api.Plan{Nodes: nodes, Faulty: (nodes - 1) / 3, Jitter: jitter, Drift: drift, Round: longest, Frame: 1}
	p.Skew = 2*(2*jitter+1+2*drift) - 1 // half of it, rounded down, leaves just room for all that is added
	return p
}

// pull is a round in which all that may go wrong pulls some nodes (bits) one way, and the others the other way.
func pull(p api.Plan, up, faulty, lie int) (r cluster.Round) {
	for node := range p.Nodes {
		sign := -1
		if up>>node&1 == 1 {
			sign = 1
		}
		for of := range p.Nodes {
			is := sign * 2 * p.Jitter
			if faulty>>of&1 == 1 {
				is = sign * lie
			}
			r.Readings = append(r.Readings, cluster.Reading{Node: node, Of: of, Is: is})
		}
		r.Drifts = append(r.Drifts, sign*2*p.Drift)
	}
	return r
}

// TestSpreadStaysWithin: whatever is read, lied and drifted, clocks stay together; and there are rounds in which they come near to Skew.
func TestSpreadStaysWithin(t *testing.T) {
	d, near := die(47), 0
	for range 600 {
		p := tight(1+d.n(api.MaxNodes), d.n(1+d.n(2000)), d.n(1+d.n(2000)))
		faulty := d.faulty(p)
		var clocks []int
		for k := range p.Nodes {
			clocks = append(clocks, d.n(2)*p.Skew) // at both ends
			if faulty>>k&1 == 1 {
				clocks[k] = d.around(quarter)
			}
		}
		c := made(t, p, faulty, clocks)
		most := 0
		up := d.n(1 << p.Nodes)
		for k := range 40 {
			if k%5 == 0 {
				up = d.n(1 << p.Nodes)
			}
			r := pull(p, up, faulty, d.any([]int{0, 1, p.Skew, 2 * p.Skew, half, greatest}))
			if d.n(3) == 0 {
				r = d.round(p)
			}
			plays(t, c, r)
			if s := c.Spread(); s > p.Skew {
				t.Fatalf("%+v, faulty %b: Spread %d", p, faulty, s)
			}
			most = max(most, c.Spread())
		}
		if p.Nodes > 3 && p.Jitter > 9 && 5*most > 4*p.Skew {
			near++
		}
	}
	if near < 100 {
		t.Errorf("%d came near to Skew: the test says little", near)
	}
}

// TestClocksComeTogether: where nothing is wrong, all show the same behind one round, and go on so.
func TestClocksComeTogether(t *testing.T) {
	d := die(53)
	for range 300 {
		p := d.plan()
		c := made(t, p, 0, d.clocks(p, 0))
		plays(t, c, cluster.Round{})
		l := c.Clocks()
		if c.Spread() != 0 || slices.Max(l) != slices.Min(l) {
			t.Errorf("%v: Spread %d", l, c.Spread())
		}
		plays(t, c, cluster.Round{})
		if !slices.Equal(c.Clocks(), l) {
			t.Errorf("clocks do not stay: %v, were %v", c.Clocks(), l)
		}
	}
}

// calm is a plan for messages: each link has a slot of its node that comes by, and times are small.
func (d *die) calm() api.Plan {
	for {
		p := d.plan()
		if p.Round < 1<<20 && len(p.Links) > 0 && len(p.Slots) > 2 && p.Nodes > 1 {
			return p
		}
	}
}

// TestInOrderOnceAtMost: of each link each node receives what was put, in that order, none twice, whatever is lost.
func TestInOrderOnceAtMost(t *testing.T) {
	d, came := die(59), 0
	for range 300 {
		p := d.calm()
		c := made(t, p, 0, alike(p.Nodes, 0))
		put := make([]int, len(p.Links))
		last := map[[2]int]int{} // by link and node: the greatest that came, and one
		for range 80 {
			for link := range p.Links {
				for range d.n(3) {
					if c.Put(link, strconv.Itoa(put[link])) == nil {
						put[link]++
					}
				}
			}
			r := d.round(p)
			r.Modes, r.Losses = nil, r.Losses[:len(r.Losses)/(1+d.n(4))]
			plays(t, c, r)
			for link, l := range p.Links {
				for node := range p.Nodes {
					if l.To>>node&1 == 0 {
						continue
					}
					at := [2]int{link, node}
					for range d.n(3) {
						data, err := c.Receive(node, link)
						if err != nil {
							break
						}
						k, err := strconv.Atoi(data)
						if err != nil || k < last[at] || k >= put[link] {
							t.Fatalf("%+v: link %d, node %d: %q behind %d, of %d", p, link, node, data, last[at]-1, put[link])
						}
						last[at] = k + 1
						came++
					}
				}
			}
		}
	}
	if came < 10_000 {
		t.Errorf("%d came: the test says little", came)
	}
}

// TestAllCome: where nothing is lost, and what comes is received, all that is put comes.
func TestAllCome(t *testing.T) {
	d := die(61)
	for range 100 {
		p := d.calm()
		c := made(t, p, 0, alike(p.Nodes, 0))
		put, come := make([]int, len(p.Links)), map[[2]int]int{}
		for round := range 200 {
			for link := range p.Links {
				if round < 50 && c.Put(link, strconv.Itoa(put[link])) == nil {
					put[link]++
				}
			}
			plays(t, c, cluster.Round{})
			for link, l := range p.Links {
				for node := range p.Nodes {
					at := [2]int{link, node}
					for l.To>>node&1 == 1 {
						data, err := c.Receive(node, link)
						if err != nil {
							break
						}
						if data != strconv.Itoa(come[at]) {
							t.Fatalf("%+v: link %d, node %d: %q, want %d", p, link, node, data, come[at])
						}
						come[at]++
					}
				}
			}
		}
		for link, l := range p.Links {
			slots := 0
			for _, s := range p.Slots {
				if s.Node == l.From {
					slots++
				}
			}
			others := slices.ContainsFunc(p.Links, func(x api.Link) bool { return x.From == l.From && x != l })
			for node := range p.Nodes {
				n := come[[2]int{link, node}]
				switch {
				case l.To>>node&1 == 0 || slots == 0:
					if n != 0 {
						t.Errorf("%+v: link %d, node %d: %d came", p, link, node, n)
					}
				case !others && n != put[link] && l.Bag <= p.Round: // at least one a round
					t.Errorf("%+v: link %d, node %d: %d came of %d", p, link, node, n, put[link])
				}
			}
		}
	}
}

// comes is what of a node's links comes to all others, all that is there.
func comes(c *cluster.Cluster, p api.Plan, from int) (l []string) {
	for link, x := range p.Links {
		for node := range p.Nodes {
			for x.From == from && x.To>>node&1 == 1 {
				data, err := c.Receive(node, link)
				if err != nil {
					break
				}
				l = append(l, fmt.Sprint(link, node, data))
			}
		}
	}
	return l
}

// TestOthersDoNotMatter: what comes by one node's links does not hang on what other nodes put and receive, nor on what clocks show, read and drift.
func TestOthersDoNotMatter(t *testing.T) {
	d, came := die(67), 0
	for range 300 {
		p := d.calm()
		faulty := d.faulty(p)
		own := p.Links[d.n(len(p.Links))].From
		one, other := made(t, p, faulty, alike(p.Nodes, 0)), made(t, p, faulty, d.clocksNear(p))
		for k := range 60 {
			for link, l := range p.Links {
				if l.From == own {
					data := fmt.Sprint(link, k)
					if a, b := one.Put(link, data), other.Put(link, data); a != b {
						t.Fatalf("%+v: Put: %v, and %v", p, a, b)
					}
				} else if d.n(2) == 0 {
					other.Put(link, fmt.Sprint("other", k))
				}
			}
			r := d.round(p)
			alone := cluster.Round{Losses: r.Losses, Modes: r.Modes}
			plays(t, one, alone)
			plays(t, other, r)
			if d.n(2) == 0 {
				for from := range p.Nodes {
					if from != own {
						comes(other, p, from)
					}
				}
			}
			a, b := comes(one, p, own), comes(other, p, own)
			if !slices.Equal(a, b) {
				t.Fatalf("%+v: of node %d comes %v, and %v", p, own, a, b)
			}
			came += len(a)
			sameNodes(t, one, other, p)
		}
	}
	if came < 5000 {
		t.Errorf("%d came: the test says little", came)
	}
}

// clocksNear are clocks around 0.
func (d *die) clocksNear(p api.Plan) (l []int) {
	for range p.Nodes {
		l = append(l, d.n(p.Skew+1))
	}
	return l
}

// sameNodes checks that the nodes of two clusters take the same members: these hang neither on messages nor on clocks.
func sameNodes(t *testing.T, one, other *cluster.Cluster, p api.Plan) {
	t.Helper()
	for node := range p.Nodes {
		a, x, _ := one.Members(node)
		b, y, _ := other.Members(node)
		if a != b || x != y {
			t.Fatalf("%+v: Members(%d): %b, %t, and %b, %t", p, node, a, x, b, y)
		}
	}
}

// TestClustersAreApart: what happens to one does not matter to another one of the same plan.
func TestClustersAreApart(t *testing.T) {
	d := die(71)
	for range 50 {
		p := d.calm()
		faulty := d.faulty(p)
		clocks := d.clocksNear(p)
		b := start(t, p, faulty, clocks)
		other := made(t, p, faulty, clocks)
		for k := range 30 {
			b.call(t, &d, k)
			other.Put(d.index(len(p.Links)), "x")
			other.Receive(d.index(p.Nodes), d.index(len(p.Links)))
			plays(t, other, d.round(p))
		}
		b.drain(t)
	}
}

// bus is a cluster in which what is lost is lost to all; and which nodes' last frames were heard (at first it is as if they were). One that a faulty node did not send, or told wrong members, was not heard as it.
type bus struct {
	p      api.Plan
	faulty int
	c      *cluster.Cluster
	heard  int // bits
	agree  int // how often two or more were held against each other
	rounds []cluster.Round
}

// play lets a round go by with losses that are to all, and checks that all that are heard take the same members. Whether a node froze itself in its slot is seen behind the round alone: one that did is not asked.
func (b *bus) play(t *testing.T, r cluster.Round) {
	t.Helper()
	b.rounds = append(b.rounds, r)
	plays(t, b.c, r)
	for slot, s := range b.p.Slots {
		lost := [2]bool{}
		for _, l := range r.Losses {
			if l.Slot == slot {
				lost[l.Channel] = true
			}
		}
		gone := lost[0] && lost[1]
		if b.faulty>>s.Node&1 == 1 && s.Node < len(r.Modes) {
			gone = gone || r.Modes[s.Node] == cluster.Mute || r.Modes[s.Node] == cluster.Wrong
		}
		b.heard |= 1 << s.Node
		if gone {
			b.heard &^= 1 << s.Node
		}
	}
	taken, by := 0, -1
	for node := range b.p.Nodes {
		members, frozen, _ := b.c.Members(node)
		if frozen || b.heard>>node&1 == 0 {
			continue
		}
		if by >= 0 && members != taken {
			t.Fatalf("%+v, faulty %b, %+v: node %d takes %b, node %d %b", b.p, b.faulty, b.rounds, by, taken, node, members)
		}
		if by >= 0 {
			b.agree++
		}
		if members>>node&1 == 0 {
			t.Fatalf("%+v: node %d does not take itself", b.p, node)
		}
		taken, by = members, node
	}
}

// lostToAll are losses of some slots (bits) on both channels, and of others on one.
func lostToAll(slots, both, one int) (l []cluster.Loss) {
	for slot := range slots {
		switch {
		case both>>slot&1 == 1:
			l = append(l, toNobody(slot)...)
		case one>>slot&1 == 1:
			l = append(l, cluster.Loss{Slot: slot, Channel: slot % 2, To: -1})
		}
	}
	return l
}

// TestAllLossesToAll goes through all ways in which what three nodes send is lost to all, in four rounds.
func TestAllLossesToAll(t *testing.T) {
	two := few(3)
	two.Slots = []api.Slot{slot(0, 0, 10), slot(1, 30, 40), slot(0, 60, 70)} // and one that never sends
	agree := 0
	for _, p := range []api.Plan{few(3), two} {
		for way := range 1 << 12 {
			b := &bus{p: p, c: made(t, p, 0, alike(3, 0)), heard: 7}
			for round := range 4 {
				b.play(t, cluster.Round{Losses: lostToAll(3, way>>(3*round)&7, 0)})
			}
			b.play(t, cluster.Round{})
			agree += b.agree
		}
	}
	if agree < 10_000 {
		t.Errorf("two were held against each other %d times: the test says little", agree)
	}
}

// TestDrawnLossesToAll: of any plan, with faulty nodes that are mute, or wrong.
func TestDrawnLossesToAll(t *testing.T) {
	d, agree, few := die(73), 0, 0
	for range 600 {
		p := d.plan()
		for len(p.Slots) == 0 || p.Nodes < 2 {
			p = d.plan()
		}
		faulty := d.faulty(p)
		b := &bus{p: p, faulty: faulty, c: made(t, p, faulty, alike(p.Nodes, 0)), heard: everyone(p.Nodes)}
		for range 30 {
			both := d.n(1<<len(p.Slots)) & d.n(1<<len(p.Slots)) & d.n(1<<len(p.Slots))
			if d.n(3) > 0 {
				both &= 1 << d.n(len(p.Slots))
			}
			r := cluster.Round{Losses: lostToAll(len(p.Slots), both, d.n(1<<len(p.Slots)))}
			for range d.n(p.Nodes + 1) {
				r.Modes = append(r.Modes, max(0, d.n(8)-5))
			}
			b.play(t, r)
		}
		agree += b.agree
		if m, frozen, _ := b.c.Members(0); !frozen && m != everyone(p.Nodes) {
			few++
		}
	}
	if agree < 10_000 || few < 50 {
		t.Errorf("two were held against each other %d times, some were lost %d times: the test says little", agree, few)
	}
}
