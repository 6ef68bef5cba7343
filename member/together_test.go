package member_test

import (
	"fmt"
	"slices"
	"testing"

	"metronome/api"
	"metronome/member"
)

// What several nodes promise together: who hears alike takes the same members.

// How a slot goes, alike for all others: they hear it, nobody does, or they are told wrong members.
const (
	toAll = iota
	toNobody
	wrongly
)

// slot is one on a bus: whose, how it goes, and which members' bits are turned, if it tells wrong ones.
type slot struct {
	from, goes, turned int
}

// bus has some nodes that share it; of each whether its last frame was heard, and good to the others (at first it is as if it were): these hear alike; and the members that all of these must take.
type bus struct {
	nodes []*member.Node
	heard []bool
	taken int
	slots []slot
}

func newBus(t *testing.T, nodes int) *bus {
	t.Helper()
	b := &bus{heard: slices.Repeat([]bool{true}, nodes), taken: everyone(nodes)}
	for id := range nodes {
		b.nodes = append(b.nodes, made(t, id, nodes))
	}
	return b
}

// play lets a slot go by, and says whether its node sent.
func (b *bus) play(t *testing.T, s slot) bool {
	t.Helper()
	b.slots = append(b.slots, s)
	told, sent := b.nodes[s.from].Sends()
	if s.goes == wrongly {
		told ^= s.turned
	}
	found := make([]int, len(b.nodes)) // Silent
	if sent && s.goes != toNobody {
		for k, n := range b.nodes {
			found[k] = n.Judges(s.from, told)
		}
	}
	b.expect(t, s, found)
	for k, n := range b.nodes {
		n.Hears(s.from, found[k]) // of itself nothing
	}
	b.goOn(s.from, told, found)
	b.same(t)
	return sent
}

// alike are the others than from that hear alike.
func (b *bus) alike(from int) (l []int) {
	for k, heard := range b.heard {
		if heard && k != from {
			l = append(l, k)
		}
	}
	return l
}

// expect: who hears alike finds the same of a frame, if one came (else the sender's own finding is Silent, too); if it is from one of them, too, it is good, unless it tells wrong members.
func (b *bus) expect(t *testing.T, s slot, found []int) {
	t.Helper()
	l := b.alike(s.from)
	if len(l) == 0 || found[s.from] == member.Silent {
		return
	}
	want := found[l[0]]
	if b.heard[s.from] && s.goes == toAll {
		want = member.Good
	}
	if b.heard[s.from] && s.goes == wrongly {
		want = member.Bad
	}
	for _, k := range l {
		if found[k] != want {
			t.Errorf("%v: node %d finds %d, want %d", b.slots, k, found[k], want)
		}
	}
}

// goOn keeps who is heard, and is to be taken, from what the others found of a frame.
func (b *bus) goOn(from, told int, found []int) {
	own := b.nodes[from].Members()
	right := found[from] != member.Silent && told == own
	l := b.alike(from)
	if len(l) == 0 { // nobody is left to whom it may be wrong: those that hear alike are anew from here
		b.heard[from], b.taken = right, own
		return
	}
	b.heard[from] = right && found[l[0]] == member.Good
	b.taken &^= 1 << from
	if found[l[0]] == member.Good {
		b.taken |= 1 << from
	}
}

// same checks that all that hear alike are not frozen, and take the same members.
func (b *bus) same(t *testing.T) {
	t.Helper()
	for k, n := range b.nodes {
		if b.heard[k] && (n.Frozen() || n.Members() != b.taken) {
			t.Errorf("%v: node %d takes %b, frozen: %t, want %b", b.slots, k, n.Members(), n.Frozen(), b.taken)
		}
	}
}

// round lets a slot of each node go by, heard by all others.
func (b *bus) round(t *testing.T) {
	t.Helper()
	for k := range b.nodes {
		b.play(t, slot{from: k, goes: toAll})
	}
}

func TestAllHeard(t *testing.T) {
	for nodes := 1; nodes <= most; nodes++ {
		b := newBus(t, nodes)
		for range 4 {
			b.round(t)
		}
		for k, n := range b.nodes {
			// Since its slot it heard those that come behind it in the round.
			shows(t, fmt.Sprintf("node %d of %d that all hear", k, nodes), n, state{everyone(nodes), false, nodes - k, 0})
		}
	}
}

// others lets a slot of each node but one go by, heard by all others.
func (b *bus) others(t *testing.T, but int) {
	t.Helper()
	for k := range b.nodes {
		if k != but {
			b.play(t, slot{from: k, goes: toAll})
		}
	}
}

// TestOneIsNotHeard: who is heard by nobody once, or tells wrong members once, is no member to the others, finds it out, and freezes itself.
func TestOneIsNotHeard(t *testing.T) {
	for nodes := 2; nodes <= most; nodes++ {
		for out := range nodes {
			next := 1 << ((out + 1) % nodes)
			ways := []slot{{goes: toNobody}, {goes: wrongly, turned: 1 << out}, {goes: wrongly, turned: next}, {goes: wrongly, turned: 1<<out | next}, {goes: wrongly, turned: everyone(nodes)}}
			if nodes == 2 {
				ways = ways[:1] // of two that differ the one that hears it first freezes itself
			}
			for _, s := range ways {
				s.from = out
				oneIsNotHeard(t, nodes, s)
			}
		}
	}
}

// oneIsNotHeard plays a slot in which one is not heard, behind a round in which all are.
func oneIsNotHeard(t *testing.T, nodes int, s slot) {
	t.Helper()
	b := newBus(t, nodes)
	b.round(t)
	if !b.play(t, s) {
		t.Errorf("%v: node %d did not send", b.slots, s.from)
	}
	rest := everyone(nodes) &^ (1 << s.from)
	for k, n := range b.nodes {
		if k != s.from && n.Members() != rest {
			t.Errorf("%v: node %d takes %b, want %b", b.slots, k, n.Members(), rest)
		}
	}
	b.others(t, s.from)
	if b.play(t, slot{from: s.from, goes: toAll}) || !b.nodes[s.from].Frozen() {
		t.Errorf("%v: node %d sends all the same", b.slots, s.from)
	}
	for k, n := range b.nodes {
		if k != s.from && (n.Frozen() || n.Members() != rest) {
			t.Errorf("%v: node %d takes %b, frozen: %t, want %b", b.slots, k, n.Members(), n.Frozen(), rest)
		}
	}
}

// TestWrongOfTwo: of two the one that is told wrong members finds as many bad slots as good ones, and freezes itself; the other one is alone then.
func TestWrongOfTwo(t *testing.T) {
	for turned := 1; turned < 4; turned++ {
		b := newBus(t, 2)
		b.play(t, slot{from: 0, goes: wrongly, turned: turned})
		shows(t, "who is told wrong members", b.nodes[1], state{2, false, 1, 1})
		b.play(t, slot{from: 1, goes: toAll})
		shows(t, "who was told wrong members", b.nodes[1], state{2, true, 1, 1})
		b.play(t, slot{from: 0, goes: toAll})
		shows(t, "who told wrong members", b.nodes[0], state{1, false, 1, 0})
	}
}

// TestHeardAgain: who was not heard, and has heard nobody since, is a member again when it is heard; and so is one that froze itself, and comes back ahead of its slot with what the others take.
func TestHeardAgain(t *testing.T) {
	for nodes := 2; nodes <= most; nodes++ {
		for out := range nodes {
			b := newBus(t, nodes)
			b.play(t, slot{from: out, goes: toNobody})
			b.play(t, slot{from: out, goes: toAll})
			b.allIn(t)

			b = newBus(t, nodes)
			b.play(t, slot{from: out, goes: toNobody})
			b.others(t, out)
			b.play(t, slot{from: out, goes: toAll}) // it freezes itself
			b.others(t, out)
			back(t, b.nodes[out], b.taken, api.OK)
			b.play(t, slot{from: out, goes: toAll})
			b.allIn(t)
		}
	}
}

// allIn checks that each node takes all, now and behind one more round.
func (b *bus) allIn(t *testing.T) {
	t.Helper()
	for range 2 {
		for k, n := range b.nodes {
			if n.Frozen() || n.Members() != everyone(len(b.nodes)) {
				t.Errorf("%v: node %d takes %b, frozen: %t, want all", b.slots, k, n.Members(), n.Frozen())
			}
		}
		b.round(t)
	}
}

// TestNobodyHeard: of several that are heard by nobody each takes itself alone, and goes on.
func TestNobodyHeard(t *testing.T) {
	for nodes := 1; nodes <= most; nodes++ {
		b := newBus(t, nodes)
		for range 3 {
			for k := range b.nodes {
				if !b.play(t, slot{from: k, goes: toNobody}) {
					t.Errorf("%v: node %d did not send", b.slots, k)
				}
			}
		}
		for k, n := range b.nodes {
			shows(t, fmt.Sprintf("node %d of %d that nobody hears", k, nodes), n, state{1 << k, false, 1, 0})
		}
	}
}

// TestWrongAgain: who tells wrong members slot by slot stays out, and the others stay together.
func TestWrongAgain(t *testing.T) {
	for nodes := 3; nodes <= most; nodes++ {
		b := newBus(t, nodes)
		for k := range 6 {
			b.play(t, slot{from: 0, goes: wrongly, turned: 1 << (1 + k%(nodes-1))})
		}
		for k := 1; k < nodes; k++ {
			shows(t, fmt.Sprintf("node %d of %d that is told wrong members", k, nodes), b.nodes[k], state{everyone(nodes) &^ 1, false, 1, 6})
		}
	}
}

// TestAllShortBuses goes through all ways of five slots of three nodes: whose each is, and how it goes (wrong members have the sender's bit, and the next node's, turned).
func TestAllShortBuses(t *testing.T) {
	var choices []slot
	for from := range 3 {
		choices = append(choices, slot{from: from, goes: toAll}, slot{from: from, goes: toNobody}, slot{from: from, goes: wrongly, turned: 1<<from | 1<<((from+1)%3)})
	}
	const long = 5
	ways := 1
	for range long {
		ways *= len(choices)
	}
	for way := range ways {
		b := newBus(t, 3)
		for k, rest := 0, way; k < long; k, rest = k+1, rest/len(choices) {
			b.play(t, choices[rest%len(choices)])
		}
		if t.Failed() {
			t.FailNow()
		}
	}
}

// slot is one that is drawn, of so many nodes: mostly it is heard.
func (d *die) slot(nodes, from int) slot {
	switch d.n(8) {
	case 0:
		return slot{from: from, goes: toNobody}
	case 1:
		return slot{from: from, goes: wrongly, turned: 1<<from | 1<<((from+1)%nodes)}
	case 2:
		return slot{from: from, goes: wrongly, turned: d.n(everyone(nodes)) + 1}
	}
	return slot{from: from, goes: toAll}
}

// TestDrawnBuses: slots in turn, or in any order, with some that come back.
func TestDrawnBuses(t *testing.T) {
	d := die(11)
	for nodes := 1; nodes <= most; nodes++ {
		for try := range 60 {
			b := newBus(t, nodes)
			for k := range 12 * nodes {
				from := k % nodes
				if try%2 == 1 {
					from = d.n(nodes)
				}
				if b.nodes[from].Frozen() && d.n(2) == 0 {
					back(t, b.nodes[from], b.taken, api.OK)
				}
				b.play(t, d.slot(nodes, from))
				if t.Failed() {
					t.FailNow()
				}
			}
		}
	}
}

// TestTwoHearAlike: two that hear the same of all others, and good of each other, take the same, whatever they hear.
func TestTwoHearAlike(t *testing.T) {
	d := die(13)
	for nodes := 2; nodes <= most; nodes++ {
		for range 60 {
			a := d.n(nodes)
			b := (a + 1 + d.n(nodes-1)) % nodes
			one, other := made(t, a, nodes), made(t, b, nodes)
			for range 40 {
				from, what := d.n(nodes+2)-1, d.n(5)-1
				if from == a || from == b {
					what = member.Good
				}
				one.Hears(from, what)
				other.Hears(from, what)
				told := d.members(nodes, one.Members())
				if of(one).members != of(other).members || one.Judges(from, told) != other.Judges(from, told) {
					t.Fatalf("nodes %d and %d of %d take %b and %b", a, b, nodes, one.Members(), other.Members())
				}
			}
			together(t, one, other, a, b, d.n(everyone(nodes)+1))
		}
	}
}

// together: two that froze themselves, and come back with the same, take the same when they have heard each other.
func together(t *testing.T, one, other *member.Node, a, b, members int) {
	t.Helper()
	for _, x := range []struct {
		n    *member.Node
		from int
	}{{one, b}, {other, a}} {
		x.n.Sends() // from here on its own slot alone is good
		x.n.Hears(x.from, member.Bad)
		x.n.Sends()
		back(t, x.n, members, api.OK)
		x.n.Hears(x.from, member.Good)
	}
	want := state{members | 1<<a | 1<<b, false, 2, 0}
	shows(t, "the one behind Back", one, want)
	shows(t, "the other one behind Back", other, want)
}

// TestOneHearsOtherwise: who alone misses a frame that all others hear is not like them any more, finds it out, and freezes itself.
func TestOneHearsOtherwise(t *testing.T) {
	for nodes := 3; nodes <= most; nodes++ {
		for deaf := 1; deaf < nodes; deaf++ {
			b := newBus(t, nodes)
			told, _ := b.nodes[0].Sends()
			for k, n := range b.nodes {
				if k == deaf {
					n.Hears(0, member.Silent)
				} else {
					n.Hears(0, n.Judges(0, told))
				}
			}
			b.heard[deaf] = false
			for k := 1; k < nodes; k++ {
				if k != deaf {
					b.play(t, slot{from: k, goes: toAll})
				}
			}
			shows(t, "who missed a frame", b.nodes[deaf], state{1 << deaf, false, 1, nodes - 2})
			sends(t, "who missed a frame", b.nodes[deaf], -1)
		}
	}
}
