package cluster

import (
	"slices"

	"metronome/agree"
	"metronome/api"
	"metronome/frame"
	"metronome/member"
	"metronome/ticks"
	"metronome/vlink"
)

// channels is over how many of them each frame goes.
const channels = 2

// farthestLie is how far from 0 a reading of a faulty clock may be: no two clocks are further apart.
const farthestLie = 2 * farthest

// noLink is the Link of a frame without a message.
const noLink = -1

// Play lets a round go by. ErrState: a clock would be beyond what may be (nothing happens).
func (c *Cluster) Play(r Round) (_ error) {
	// Clocks are reckoned first, but set last: else a round that may not be would leave something behind.
	set, err := c.agreed(r)
	if err != nil {
		return err
	}
	lost := c.lost(r.Losses)
	for slot, s := range c.plan.Slots {
		f, sent := c.sends(slot, of(r.Modes, s.Node))
		c.hear(f, sent, lost[slot])
	}
	c.rounds++
	c.clocks = set
	return nil
}

// of is a node's number in a list by nodes; 0, if there is none.
func of(l []int, node int) int {
	if node >= len(l) {
		return 0
	}
	return l[node]
}

// agreed is what clocks show behind a round: each is set on by what its node reads, and drifts.
func (c *Cluster) agreed(r Round) ([]int, error) {
	// No reading is beyond MaxTime: clocks are at most half of that apart, Jitter is an eighth. So Round has no error.
	set, err := agree.Round(c.clocks, c.read(r.Readings), c.plan.Faulty)
	if err != nil {
		return nil, err
	}
	drift := cut(c.plan.Drift)
	for node := range set {
		set[node] += drift(of(r.Drifts, node))
	}
	if slices.ContainsFunc(set, tooFar) {
		return nil, api.ErrState
	}
	return set, nil
}

// apart is how much more a node's clock shows than another one's.
func (c *Cluster) apart(node, than int) int {
	return c.clocks[node] - c.clocks[than]
}

// read is what each node reads of each: a row a node.
func (c *Cluster) read(l []Reading) [][]int {
	rows := make([][]int, len(c.clocks))
	for node := range rows {
		for other := range c.clocks {
			rows[node] = append(rows[node], c.apart(other, node))
		}
	}
	lie, blur := cut(farthestLie), cut(c.plan.Jitter)
	for _, r := range l {
		if !c.isNode(r.Node) || !c.isNode(r.Of) || r.Node == r.Of {
			continue
		}
		if has(c.faulty, r.Of) {
			rows[r.Node][r.Of] = lie(r.Is)
		} else {
			// From the clocks anew: readings of the same two do not add up beyond Jitter.
			rows[r.Node][r.Of] = c.apart(r.Of, r.Node) + blur(r.Is)
		}
	}
	return rows
}

// lost is to whom (bits) what is sent is lost: by slots, by channels.
func (c *Cluster) lost(l []Loss) [][channels]int {
	to := make([][channels]int, len(c.plan.Slots))
	for _, x := range l {
		if 0 <= x.Slot && x.Slot < len(to) && 0 <= x.Channel && x.Channel < channels {
			to[x.Slot][x.Channel] |= x.To
		}
	}
	return to
}

// sends is what a slot's node sends in it, by its mode, if it is faulty; false: nothing.
func (c *Cluster) sends(slot, mode int) (frame.Frame, bool) {
	s := c.plan.Slots[slot]
	f := frame.Frame{Node: s.Node, Slot: slot, Link: noLink}
	// Asked whatever the mode is: one that is mute does not know of it, and counts as if it had sent.
	members, sent := c.nodes[s.Node].Sends()
	if !has(c.faulty, s.Node) {
		mode = Right
	}
	if !sent || mode == Mute {
		return f, false
	}
	if mode == Wrong {
		members ^= bit(s.Node) | bit((s.Node+1)%c.plan.Nodes)
	}
	f.Members = members
	c.load(&f, s.From)
	return f, true
}

// load lays a message into a frame that is sent when a slot of this round begins: of the first link of its node that lets one go.
func (c *Cluster) load(f *frame.Frame, begins int) {
	// Held against a share of MaxTime: behind very many rounds the product would wrap round.
	if c.rounds > api.MaxTime/c.plan.Round {
		return
	}
	now, err := ticks.Add(c.rounds*c.plan.Round, begins)
	if err != nil {
		return
	}
	for i, l := range c.links {
		if l.from != f.Node {
			continue
		}
		if x, err := l.sender.Send(now); err == nil {
			f.Link, f.Seq, f.Data = i, x.Seq, x.Data
			return
		}
	}
}

// hear lets all other nodes hear what was sent in a slot, if something was, by each channel on which it is not lost to them.
func (c *Cluster) hear(f frame.Frame, sent bool, lost [channels]int) {
	for node, n := range c.nodes {
		if node == f.Node {
			continue
		}
		what := member.Silent
		for _, to := range lost {
			if sent && !has(to, node) {
				what = n.Judges(f.Node, f.Members)
				c.take(f, node)
			}
		}
		n.Hears(f.Node, what)
	}
}

// take lets a frame's message come to a node, if it has one, and that is to be told there.
func (c *Cluster) take(f frame.Frame, node int) {
	if f.Link == noLink {
		return
	}
	e := c.links[f.Link].ends[node]
	if e != nil && e.receiver.Take(vlink.Item{Seq: f.Seq, Data: f.Data}) {
		// Its error is left: a message that finds the port full is lost, and nobody is told.
		_ = e.port.Send(f.Data)
	}
}
