package cluster_test

import (
	"fmt"
	"testing"

	"metronome/api"
	"metronome/cluster"
)

// plan is one that may be, of up to 16 nodes, with times that are small or great.
func (d *die) plan() api.Plan {
	p := api.Plan{Nodes: 1 + d.n(1+d.n(api.MaxNodes)), Jitter: d.n(6), Drift: d.n(4), Frame: 1 + d.n(60)}
	if d.n(6) == 0 {
		p.Jitter, p.Drift = d.n(1<<d.n(34)), d.n(1<<d.n(34))
	}
	p.Faulty = d.n((p.Nodes-1)/3 + 1)
	p.Skew = 2*(2*p.Jitter+1+2*p.Drift) - d.n(2) + d.n(3)*d.n(9)
	at := d.n(5)
	for range d.n(1 + d.n(1+d.n(api.MaxSlots))) {
		to := at + 1 + d.n(9)
		p.Slots = append(p.Slots, slot(d.n(p.Nodes), at, to))
		at = to + p.Skew + 1 + d.n(2)*d.n(9)
	}
	p.Round = min(at+p.Skew+1+d.n(50), longest)
	if d.n(8) == 0 {
		p.Round = max(longest-d.n(9), p.Round) // a few rounds are up to MaxTime
	}
	for range d.n(api.MaxLinks + 1) {
		from := d.n(p.Nodes)
		if to := d.n(1<<p.Nodes) &^ (1 << from); to > 0 {
			p.Links = append(p.Links, api.Link{From: from, To: to, Bag: 1 + d.n(2*min(p.Round, longest/2)), Queue: 1 + d.n(1+d.n(api.MaxQueue))})
		}
	}
	if len(p.Slots) > 0 && at+p.Skew+1 > longest { // too long: rarely, and then without slots
		p.Slots = nil
	}
	return p
}

// faulty is as many nodes as may be of a plan, or fewer.
func (d *die) faulty(p api.Plan) (bits int) {
	for range d.n(p.Faulty + 1) {
		bits |= 1 << d.n(p.Nodes)
	}
	return bits
}

// clocks are such as may be: near 0, or at an end of what may be; faulty ones anywhere.
func (d *die) clocks(p api.Plan, faulty int) (l []int) {
	from := d.around(1000)
	switch d.n(6) {
	case 0:
		from = quarter - p.Skew - d.n(20)
	case 1:
		from = -quarter + d.n(20)
	}
	for k := range p.Nodes {
		clock := from + d.n(p.Skew+1)
		if faulty>>k&1 == 1 && d.n(2) == 0 {
			clock = d.around(quarter)
		}
		l = append(l, cutOff(clock, quarter))
	}
	return l
}

// number is a small one around some, or one at a bound, or as great or as small as an int can be.
func (d *die) number(about int) int {
	switch d.n(8) {
	case 0:
		return d.any(extremes)
	case 1:
		return d.around(2 * about)
	case 2:
		return d.around(1) + about
	case 3:
		return d.around(1) - about
	}
	return d.around(about)
}

// index is a number from 0 to below many, mostly.
func (d *die) index(many int) int {
	if d.n(12) == 0 {
		return d.any([]int{-1, many, many + 1, d.any(extremes)})
	}
	return d.n(max(many, 1))
}

// bits are some of so many nodes, or others.
func (d *die) bits(nodes int) int {
	switch d.n(8) {
	case 0:
		return everyone(nodes)
	case 1:
		return d.any(extremes)
	case 2:
		return -1 << d.n(64)
	}
	return d.n(1 << nodes)
}

// round is what happens in one of a plan's.
func (d *die) round(p api.Plan) (r cluster.Round) {
	for range d.n(1 + d.n(12)) {
		x := cluster.Loss{Slot: d.index(len(p.Slots)), Channel: d.index(2), To: d.bits(p.Nodes)}
		r.Losses = append(r.Losses, x)
		if d.n(2) == 0 { // on the other one, too
			x.Channel = 1 - x.Channel
			r.Losses = append(r.Losses, x)
		}
	}
	for range d.n(1 + d.n(4*p.Nodes)) {
		x := cluster.Reading{Node: d.index(p.Nodes), Of: d.index(p.Nodes), Is: d.number(p.Jitter)}
		if d.n(4) == 0 {
			x.Is = d.number(d.any([]int{p.Skew, quarter, half}))
		}
		r.Readings = append(r.Readings, x)
	}
	for range d.n(p.Nodes + 3) {
		r.Drifts = append(r.Drifts, d.number(p.Drift))
	}
	for range d.n(p.Nodes + 3) {
		if d.n(8) == 0 {
			r.Modes = append(r.Modes, d.any(extremes))
		} else {
			r.Modes = append(r.Modes, d.n(5)-1)
		}
	}
	return r
}

// call calls something that is drawn.
func (b *both) call(t *testing.T, d *die, k int) {
	t.Helper()
	p := b.m.plan
	switch d.n(5) {
	case 0:
		b.put(t, d.index(len(p.Links)), fmt.Sprint("m", k))
	case 1:
		b.put(t, d.index(len(p.Links)), long(d.n(43)))
	case 2:
		for range d.n(4) {
			b.receive(t, d.index(p.Nodes), d.index(len(p.Links)))
		}
	default:
		b.play(t, d.round(p))
	}
}

// TestDrawn holds clusters of all kinds against the second reckoning.
func TestDrawn(t *testing.T) {
	d := die(41)
	seen := map[string]int{}
	for range 1500 {
		p := d.plan()
		faulty := d.faulty(p)
		b := start(t, p, faulty, d.clocks(p, faulty))
		for k := range 60 {
			b.call(t, &d, k)
			if t.Failed() {
				t.Fatalf("plan %+v, faulty %b", p, faulty)
			}
		}
		b.sees(seen)
		b.drain(t)
	}
	for _, what := range []string{"frozen", "all sound", "messages", "waiting", "beyond MaxTime", "a clock too far", "faulty"} {
		if seen[what] < 20 {
			t.Errorf("%s: seen %d times: the test says little of it", what, seen[what])
		}
	}
}

// sees counts what came about.
func (b *both) sees(seen map[string]int) {
	count := func(what string, is bool) {
		if is {
			seen[what]++
		}
	}
	frozen, faulty := 0, b.m.faulty.many()
	for _, p := range b.m.peers {
		if p.frozen {
			frozen++
		}
	}
	went, wait := 0, 0
	for _, l := range b.m.lines {
		went, wait = went+l.went, wait+len(l.wait)
	}
	count("frozen", frozen > 0)
	count("all sound", frozen == 0 && b.m.plan.Nodes > 1)
	count("messages", went > 3)
	count("waiting", wait > 0)
	count("beyond MaxTime", b.m.rounds*b.m.plan.Round > latest && went > 0)
	count("a clock too far", b.m.beyond > 0)
	count("faulty", faulty > 1)
}

// TestDrawnGently: with few losses and faults, so that most nodes stay, and much is sent.
func TestDrawnGently(t *testing.T) {
	d := die(43)
	for range 150 {
		p := d.plan()
		faulty := d.faulty(p)
		b := start(t, p, faulty, d.clocks(p, faulty))
		for k := range 120 {
			for link := range p.Links {
				b.put(t, link, fmt.Sprint("m", k, link))
			}
			var r cluster.Round
			if d.n(6) == 0 {
				r = d.round(p)
			}
			b.play(t, r)
			if t.Failed() {
				t.Fatalf("plan %+v, faulty %b", p, faulty)
			}
			if d.n(8) == 0 {
				b.drain(t)
			}
		}
	}
}
