package cluster_test

import (
	"slices"

	"metronome/api"
	"metronome/cluster"
)

// A second reckoning of a cluster, by another hand than the program's: it calls no layer below, takes sets of nodes as rows of bools, goes through all losses and readings each time that one is asked for, and counts steps one by one.

// Bounds by another hand.
const (
	latest   = 1 << 40 // of times
	quarter  = latest / 4
	half     = latest / 2
	longest  = latest / 8 // of a plan's lengths of time
	mostWait = 16         // at a port, too
	mostData = 40
)

// set is some nodes.
type set [16]bool

// setOf is a set by its bits.
func setOf(bits int) (s set) {
	for k := range s {
		s[k] = bits>>k&1 == 1
	}
	return s
}

// bits is a set's.
func (s set) bits() (n int) {
	for k, in := range s {
		if in {
			n += 1 << k
		}
	}
	return n
}

// peer is a node.
type peer struct {
	members   set
	frozen    bool
	good, bad int
}

// letter is a message on its way: of which link, as the how manieth one that went there.
type letter struct {
	link, went int
	data       string
}

// line is a link: what waits, how many went, and when the last one did.
type line struct {
	plan api.Link
	to   set
	wait []string
	went int
	last int
}

// box is where a link comes to a node: the numbers that were told, and what is there.
type box struct {
	told  []int
	there []string
}

type model struct {
	plan   api.Plan
	faulty set
	clocks []int
	rounds int
	beyond int // how many rounds were none, for a clock would have been too far
	peers  []*peer
	lines  []*line
	boxes  map[[2]int]*box // by link and node
}

// newModel is one of a plan that may be, with lists of its own.
func newModel(p api.Plan, faulty int, clocks []int) *model {
	m := &model{plan: p, faulty: setOf(faulty), clocks: slices.Clone(clocks), boxes: map[[2]int]*box{}}
	m.plan.Slots, m.plan.Links = slices.Clone(p.Slots), slices.Clone(p.Links)
	for range p.Nodes {
		m.peers = append(m.peers, &peer{members: setOf(1<<p.Nodes - 1), good: 1})
	}
	for i, l := range p.Links {
		m.lines = append(m.lines, &line{plan: l, to: setOf(l.To)})
		for node, goes := range setOf(l.To) {
			if goes {
				m.boxes[[2]int{i, node}] = &box{}
			}
		}
	}
	return m
}

// spread is how far clocks of nodes that are not faulty are apart, two by two.
func (m *model) spread() (most int) {
	for i, a := range m.clocks {
		for j, b := range m.clocks {
			if !m.faulty[i] && !m.faulty[j] {
				most = max(most, a-b)
			}
		}
	}
	return most
}

func (m *model) put(link int, data string) api.Errno {
	if link < 0 || link >= len(m.lines) {
		return api.ErrRange
	}
	l := m.lines[link]
	if len(data) > mostData {
		return api.ErrLimit
	}
	if len(l.wait) == l.plan.Queue {
		return api.ErrFull
	}
	l.wait = append(l.wait, data)
	return api.OK
}

func (m *model) receive(node, link int) (string, api.Errno) {
	b := m.boxes[[2]int{link, node}]
	if b == nil {
		return "", api.ErrRange
	}
	if len(b.there) == 0 {
		return "", api.ErrNone
	}
	data := b.there[0]
	b.there = b.there[1:]
	return data, api.OK
}

// cutOff is a number no further from 0 than most.
func cutOff(n, most int) int {
	switch {
	case n > most:
		return most
	case n < -most:
		return -most
	}
	return n
}

// reads is what a node reads of another one (or of itself): by the last Reading of the two, if there is one.
func (m *model) reads(node, of int, l []cluster.Reading) int {
	exact := m.clocks[of] - m.clocks[node]
	for _, r := range slices.Backward(l) {
		switch {
		case node == of || r.Node != node || r.Of != of:
		case m.faulty[of]:
			return cutOff(r.Is, half)
		default:
			return exact + cutOff(r.Is, m.plan.Jitter)
		}
	}
	return exact
}

// middle is what is between the least and the greatest one of a row, without so many of each; rounded down.
func middle(row []int, without int) int {
	slices.Sort(row)
	row = row[without : len(row)-without]
	both := row[0] + row[len(row)-1]
	if both%2 != 0 {
		both--
	}
	return both / 2
}

// next is what clocks show behind a round.
func (m *model) next(r cluster.Round) (l []int) {
	for node, clock := range m.clocks {
		var row []int
		for of := range m.clocks {
			row = append(row, m.reads(node, of, r.Readings))
		}
		clock += middle(row, m.plan.Faulty)
		if node < len(r.Drifts) {
			clock += cutOff(r.Drifts[node], m.plan.Drift)
		}
		l = append(l, clock)
	}
	return l
}

func (m *model) play(r cluster.Round) api.Errno {
	clocks := m.next(r)
	for _, c := range clocks {
		if c != cutOff(c, quarter) {
			m.beyond++
			return api.ErrState
		}
	}
	for slot := range m.plan.Slots {
		m.slot(slot, r)
	}
	m.rounds++
	m.clocks = clocks
	return api.OK
}

// mode is a node's in a round: 1: mute, 2: wrong.
func (m *model) mode(node int, r cluster.Round) int {
	if !m.faulty[node] || node >= len(r.Modes) {
		return 0
	}
	return r.Modes[node]
}

// slot lets one go by.
func (m *model) slot(slot int, r cluster.Round) {
	from := m.plan.Slots[slot].Node
	p := m.peers[from]
	if p.bad >= p.good {
		p.frozen = true
	}
	sends := !p.frozen
	if sends {
		p.good, p.bad = 1, 0
	}
	told := p.members
	switch m.mode(from, r) {
	case 1:
		sends = false
	case 2:
		next := (from + 1) % m.plan.Nodes
		told[from], told[next] = !told[from], !told[next]
	}
	var x *letter
	if sends {
		x = m.goes(from, m.plan.Slots[slot].From)
	}
	for node := range m.peers {
		if node != from {
			m.hear(slot, from, node, sends, told, x, r)
		}
	}
}

// goes is the message that a node sends in a slot, of the first link that has one; nil: none.
func (m *model) goes(from, begins int) *letter {
	now := float64(m.rounds)*float64(m.plan.Round) + float64(begins) // exact where it matters, and it does not wrap round
	if now > latest {
		return nil
	}
	for i, l := range m.lines {
		if l.plan.From != from || len(l.wait) == 0 || l.went > 0 && int(now)-l.last < l.plan.Bag {
			continue
		}
		x := &letter{link: i, went: l.went, data: l.wait[0]}
		l.wait, l.last = l.wait[1:], int(now)
		l.went++
		return x
	}
	return nil
}

// isLost says whether what is sent in a slot is lost to a node on a channel.
func isLost(slot, channel, node int, l []cluster.Loss) bool {
	return slices.ContainsFunc(l, func(x cluster.Loss) bool {
		return x.Slot == slot && x.Channel == channel && x.To>>node&1 == 1
	})
}

// hear lets a node hear what is sent in a slot.
func (m *model) hear(slot, from, node int, sends bool, told set, x *letter, r cluster.Round) {
	p := m.peers[node]
	came := false
	for channel := range 2 {
		if !sends || isLost(slot, channel, node, r.Losses) {
			continue
		}
		came = true
		if x != nil {
			m.come(node, x)
		}
	}
	if p.frozen {
		return
	}
	own := p.members
	own[from] = true
	good := came && told == own
	p.members[from] = good
	if good {
		p.good++
	} else if came {
		p.bad++
	}
}

// number is what a message has that goes behind so many others.
func number(others int) int {
	if others == 0 {
		return 0
	}
	return (others-1)%255 + 1
}

// come lets a message come to a node, if its link goes there: it is told, unless it is not ahead of the newest number, from which at most 127 steps lead.
func (m *model) come(node int, x *letter) {
	b := m.boxes[[2]int{x.link, node}]
	if b == nil {
		return
	}
	seq := number(x.went)
	if len(b.told) > 0 && !leads(b.told[len(b.told)-1], seq) {
		return
	}
	b.told = append(b.told, seq)
	if len(b.there) < mostWait {
		b.there = append(b.there, x.data)
	}
}

// leads says whether 1 to 127 steps lead from a number to another one.
func leads(from, to int) bool {
	for range 127 {
		from++
		if from == 256 {
			from = 1
		}
		if from == to {
			return true
		}
	}
	return false
}
