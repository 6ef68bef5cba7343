package cluster_test

import (
	"fmt"
	"slices"
	"testing"

	"metronome/api"
	"metronome/cluster"
)

// 10.3: Play, then slot by slot

// lose is a round with losses alone.
func lose(l ...cluster.Loss) cluster.Round {
	return cluster.Round{Losses: l}
}

// TestNothingIsLost: all stay members, and messages come to all nodes to which their links go.
func TestNothingIsLost(t *testing.T) {
	b := start(t, linked(api.Link{From: 0, To: 14, Bag: 1, Queue: 9}, api.Link{From: 2, To: 2, Bag: 1, Queue: 9}, api.Link{From: 3, To: 3, Bag: 1, Queue: 9}), 0, alike(4, 0))
	b.puts(t, 0, "a", "b")
	b.puts(t, 1, "c")
	b.rounds(t, 1)
	b.takes(t, 15, 15, 15, 15)
	for node := 1; node < 4; node++ {
		b.has(t, node, 0, "a")
	}
	b.has(t, 1, 1, "c")
	b.has(t, 0, 2)
	b.puts(t, 2, "d", "e", "f")
	b.rounds(t, 4)
	b.takes(t, 15, 15, 15, 15)
	b.has(t, 1, 0, "b")
	b.has(t, 0, 2, "d", "e", "f")
	b.has(t, 1, 2, "d", "e", "f")
	b.drain(t)
}

// TestLosses: in slot 0, of node 0, by slots, channels and bits: who hears it, and to whom its message comes.
func TestLosses(t *testing.T) {
	one := func(slot, channel, to int) []cluster.Loss {
		return []cluster.Loss{{Slot: slot, Channel: channel, To: to}}
	}
	twice := func(to int) []cluster.Loss { return slices.Concat(one(0, 0, to), one(0, 1, to)) }
	for _, c := range []struct {
		name   string
		losses []cluster.Loss
		lost   int // to whom
	}{
		{"nothing", nil, 0},
		{"channel 0 to all", one(0, 0, 15), 0},
		{"channel 1 to all", one(0, 1, 15), 0},
		{"both to all", twice(15), 14},
		{"both to nobody", twice(0), 0},
		{"both to itself", twice(1), 0},
		{"both to node 1", twice(2), 2},
		{"both to node 2", twice(4), 4},
		{"both to the last one", twice(8), 8},
		{"both to two", twice(10), 10},
		{"both below 0", twice(-1), 14},
		{"both below 0, but for node 1", twice(^2), 12},
		{"both to node 3 and none", twice(-8), 8},
		{"both to none", twice(-16), 0},
		{"both to none above", twice(1 << 20), 0},
		{"as small as may be", twice(least), 0},
		{"next to it", twice(least + 4), 4},
		{"as great as may be", twice(greatest), 14},
		{"each to another one", slices.Concat(one(0, 0, 2), one(0, 1, 12)), 0},
		{"each to some", slices.Concat(one(0, 0, 6), one(0, 1, 12)), 4},
		{"channel 1 first", slices.Concat(one(0, 1, 6), one(0, 0, 12)), 4},
		{"by and by", slices.Concat(one(0, 0, 2), one(0, 0, 4), one(0, 1, 4), one(0, 1, 2)), 6},
		{"the same one twice", slices.Concat(twice(6), twice(6)), 6},
		{"one channel twice", slices.Concat(one(0, 0, 6), one(0, 0, 6)), 0},
		{"the same one thrice, to more", slices.Concat(twice(2), twice(6), twice(2)), 6},
		{"slot -1", slices.Concat(one(-1, 0, -1), one(-1, 1, -1)), 0},
		{"slot 4", slices.Concat(one(4, 0, -1), one(4, 1, -1)), 0},
		{"slot 32", slices.Concat(one(32, 0, -1), one(32, 1, -1)), 0},
		{"channel -1", slices.Concat(one(0, -1, -1), one(0, 0, -1)), 0},
		{"channel 2", slices.Concat(one(0, 2, -1), one(0, 1, -1)), 0},
		{"channel 3", slices.Concat(one(0, 3, -1), one(0, 0, -1)), 0},
	} {
		b := start(t, linked(api.Link{From: 0, To: 10, Bag: 1, Queue: 1}), 0, alike(4, 0))
		b.puts(t, 0, "a")
		b.play(t, cluster.Round{Losses: slices.Concat(c.losses, toNobody(1), toNobody(2), toNobody(3))})
		for node := 1; node < 4; node++ {
			want := 1 | 1<<node // the others were not heard
			if c.lost>>node&1 == 1 {
				want = 1 << node
			}
			if m, _, _ := b.c.Members(node); m != want {
				t.Errorf("%s: Members(%d): %b, want %b", c.name, node, m, want)
			}
		}
		for _, node := range []int{1, 3} {
			if x, err := b.c.Receive(node, 0); (err == nil) == (c.lost>>node&1 == 1) || err == nil && x != "a" {
				t.Errorf("%s: Receive(%d): %q, %v", c.name, node, x, err)
			}
		}
		b.nothing(t, 2, 0, api.ErrRange)
		if t.Failed() {
			t.Fatalf("%s: %v", c.name, c.losses)
		}
	}
	for _, n := range extremes { // slots and channels that are none: all is heard
		for _, l := range [][]cluster.Loss{slices.Concat(one(n, 0, -1), one(n, 1, -1)), one(0, n, -1), slices.Concat(one(0, n, -1), one(0, 0, -1)), slices.Concat(one(0, n, -1), one(3, 1, -1)), one(n, n, n)} {
			b := start(t, four(), 0, alike(4, 0))
			b.play(t, cluster.Round{Losses: l})
			b.takes(t, 15, 15, 15, 15)
		}
	}
}

// TestLossOfOtherSlots: what is lost is lost in that slot of that round alone.
func TestLossOfOtherSlots(t *testing.T) {
	for lost := range 4 {
		b := start(t, linked(api.Link{From: 0, To: 14, Bag: 1, Queue: 9}, api.Link{From: 1, To: 13, Bag: 1, Queue: 9}, api.Link{From: 2, To: 11, Bag: 1, Queue: 9}, api.Link{From: 3, To: 7, Bag: 1, Queue: 9}), 0, alike(4, 0))
		for link := range 4 {
			b.puts(t, link, "a", "b")
		}
		b.play(t, cluster.Round{Losses: toNobody(lost)})
		for link := range 4 {
			for node := range 4 {
				if node == link {
					continue
				}
				if link == lost {
					b.has(t, node, link)
				} else {
					b.has(t, node, link, "a")
				}
			}
		}
		want := alike(4, 15&^(1<<lost))
		want[lost] = 1 << lost // those that it heard did not know it any more
		for k := range lost {
			want[lost] |= 1 << k // those ahead of it did
		}
		b.takes(t, want...)
	}
}

// TestFrozenNode: one that finds as many bad slots as good ones freezes itself in its slot: nothing of it is sent any more, its messages wait, and what comes to it comes all the same.
func TestFrozenNode(t *testing.T) {
	p := few(2)
	p.Links = []api.Link{{From: 0, To: 2, Bag: 1, Queue: 3}, {From: 1, To: 1, Bag: 1, Queue: 9}}
	b := start(t, p, 0, []int{0, 10})
	b.puts(t, 0, "a", "b")
	b.puts(t, 1, "x", "y")
	b.play(t, cluster.Round{Losses: toNobody(0)}) // node 1 does not hear node 0, so node 0 hears it wrong
	b.takes(t, 1, 2)
	b.has(t, 1, 0)
	b.has(t, 0, 1, "x")
	b.puts(t, 1, "z")
	b.rounds(t, 3)
	b.takes(t, ^1, 2) // frozen
	b.has(t, 1, 0)
	b.has(t, 0, 1, "y", "z")
	b.puts(t, 0, "c", "d")
	no(t, "Put", b.c.Put(0, "e"), api.ErrFull) // none went but the first one
	b.rounds(t, 3)
	b.takes(t, ^1, 2)
	b.shows(t, 5, 5) // clocks go on
	if n := b.c.Rounds(); n != 7 {
		t.Errorf("Rounds: %d, want 7", n)
	}
}

// TestFrozenInItsSlot: not ahead of it, and what it takes as members stays from then on.
func TestFrozenInItsSlot(t *testing.T) {
	p := few(3)
	p.Slots = []api.Slot{slot(0, 0, 10), slot(1, 30, 40), slot(2, 60, 70), slot(0, 90, 100), slot(1, 120, 130), slot(2, 150, 160)}
	b := start(t, p, 0, alike(3, 0))
	// Node 2 alone misses node 0: it finds node 1 bad, sends nothing any more, and the others go on.
	b.play(t, lose(cluster.Loss{Slot: 0, Channel: 0, To: 4}, cluster.Loss{Slot: 0, Channel: 1, To: 4}))
	b.takes(t, 3, 3, ^4)
	b.rounds(t, 2)
	b.takes(t, 3, 3, ^4)
	// Node 2 hears nobody at all, and so nothing bad: it is not frozen.
	b = start(t, p, 0, alike(3, 0))
	var l []cluster.Loss
	for k := range 6 {
		l = append(l, toNobody(k)...)
	}
	b.play(t, lose(l...))
	b.takes(t, 1, 2, 4)
	b.rounds(t, 1) // node 0 is heard first, and bad to the others
	b.takes(t, 1, ^2, ^4)
}

// heard lets a round of four nodes go by, in which node 3 is faulty by a mode, and checks whom all take.
func heard(t *testing.T, faulty int, modes []int, want ...int) *both {
	t.Helper()
	b := start(t, linked(api.Link{From: 3, To: 7, Bag: 1, Queue: 2}, api.Link{From: 0, To: 14, Bag: 1, Queue: 2}), faulty, alike(4, 0))
	b.puts(t, 0, "a", "b")
	b.puts(t, 1, "c", "d")
	b.play(t, cluster.Round{Modes: modes})
	b.takes(t, want...)
	if t.Failed() {
		t.Fatalf("faulty %b, modes %v", faulty, modes)
	}
	return b
}

// TestModes: which mode counts, and of whom.
func TestModes(t *testing.T) {
	const right, mute, wrong = cluster.Right, cluster.Mute, cluster.Wrong
	if right != 0 || mute != 1 || wrong != 2 {
		t.Errorf("modes: %d, %d, %d", right, mute, wrong)
	}
	// Nobody is faulty, or others are, or there is no mode, or none of the three.
	for _, modes := range [][]int{nil, {}, {0}, {0, 0, 0, 0}, {0, 0, 0, 3}, {0, 0, 0, -1}, {0, 0, 0, least}, {0, 0, 0, greatest}, {0, 0, 0, 257}, {1, 2, 1}, {2, 1, 2, 0, 1, 2}, {1, 1, 1, 0}} {
		heard(t, 8, modes, 15, 15, 15, 15).has(t, 0, 0, "a")
		heard(t, 0, modes, 15, 15, 15, 15).has(t, 0, 0, "a")
	}
	for _, modes := range [][]int{{1, 1, 1, 1}, {2, 2, 2, 2}, {1, 2, 1, 2, 1}} {
		heard(t, 0, modes, 15, 15, 15, 15).has(t, 2, 1, "c")
	}
	for _, n := range extremes {
		heard(t, 8, []int{n, n, n, n}, 15, 15, 15, 15)
	}
	// Mute: nothing is sent, though it takes itself as one that sent; its messages wait.
	for _, modes := range [][]int{{0, 0, 0, 1}, {2, 2, 1, 1}, {0, 0, 0, 1, 0, 2}} {
		b := heard(t, 8, modes, 7, 7, 7, 15)
		b.has(t, 0, 0)
		no(t, "Put", b.c.Put(0, "x"), api.ErrFull)
		b.has(t, 3, 1, "c")
		b.rounds(t, 1)          // all that it hears now is bad
		b.takes(t, 7, 7, 7, ^8) // it freezes itself in its slot
		b.has(t, 0, 0)
	}
	for _, modes := range [][]int{{1}, {1, 1, 1, 1}} {
		heard(t, 1, modes, 1, 14, 14, 14).has(t, 3, 1) // the first one finds all others bad, behind it
	}
	// Wrong: members with its own bit, and the first one's, turned: bad to all; its message comes all the same.
	for _, modes := range [][]int{{0, 0, 0, 2}, {1, 1, 1, 2}, {1, 1, 1, 2, 2, 1}} {
		b := heard(t, 8, modes, 7, 7, 7, 15)
		for node := range 3 {
			b.has(t, node, 0, "a")
		}
		no(t, "Put", b.c.Put(0, "x"), api.OK)
	}
}

// TestWrongIsBadToAll: also to those that take others as members than it does, and just those that it tells but for its own bit.
func TestWrongIsBadToAll(t *testing.T) {
	p := four()
	p.Slots = []api.Slot{slot(0, 10, 20), slot(3, 50, 60)}
	toTwo := []cluster.Loss{{Slot: 0, Channel: 0, To: 6}, {Slot: 0, Channel: 1, To: 6}}
	b := start(t, p, 8, alike(4, 0))
	b.play(t, cluster.Round{Losses: toTwo, Modes: []int{0, 0, 0, cluster.Wrong}}) // node 3 knows node 0, the next one, nodes 1 and 2 do not
	b.takes(t, 7, 6, 6, 15)
	b = start(t, p, 8, alike(4, 0))
	b.play(t, cluster.Round{Losses: toTwo})
	b.takes(t, 15, 6, 6, 15)
	// In the middle: the next one of node 1 is node 2.
	p.Slots = []api.Slot{slot(2, 10, 20), slot(1, 50, 60)}
	toTwo = []cluster.Loss{{Slot: 0, Channel: 0, To: 9}, {Slot: 0, Channel: 1, To: 9}}
	b = start(t, p, 2, alike(4, 0))
	b.play(t, cluster.Round{Losses: toTwo, Modes: []int{0, cluster.Wrong}})
	b.takes(t, 9, 15, 13, 9)
}

// TestMuteCounts: one that is mute counts anew in its slot, as if it had sent.
func TestMuteCounts(t *testing.T) {
	p := four()
	p.Slots = []api.Slot{slot(0, 10, 20), slot(1, 50, 60), slot(3, 90, 100), slot(1, 130, 140), slot(3, 170, 175)}
	b := start(t, p, 8, alike(4, 0))
	// Ahead of its first slot node 3 hears two good slots; were they counted on, one bad one would not freeze it in the second.
	b.play(t, cluster.Round{Modes: []int{0, 0, 0, cluster.Mute}})
	b.takes(t, 7, 7, 7, ^13)
	// One that is mute freezes itself, too.
	b = start(t, p, 8, alike(4, 0))
	b.play(t, cluster.Round{Modes: []int{0, 0, 0, cluster.Mute}, Losses: []cluster.Loss{{Slot: 0, Channel: 0, To: 8}, {Slot: 0, Channel: 1, To: 8}}})
	b.takes(t, 7, 7, 7, ^12)
}

// TestSeveralSlots of one node in a round: it sends in each.
func TestSeveralSlots(t *testing.T) {
	p := four()
	p.Slots = []api.Slot{slot(1, 10, 20), slot(1, 50, 60), slot(0, 90, 100), slot(1, 130, 140)}
	p.Links = []api.Link{{From: 1, To: 5, Bag: 1, Queue: 16}}
	b := start(t, p, 0, alike(4, 0))
	b.puts(t, 0, "a", "b", "c", "d", "e")
	b.rounds(t, 1)
	b.takes(t, 15, 15, 15, 15) // who has no slot is not missed
	b.has(t, 0, 0, "a", "b", "c")
	b.rounds(t, 1)
	b.has(t, 0, 0, "d", "e")
	b.has(t, 2, 0, "a", "b", "c", "d", "e")
	// Lost in one of them, and heard in the next: it is a member again.
	b.puts(t, 0, "f", "g", "h")
	b.play(t, cluster.Round{Losses: toNobody(0)})
	b.takes(t, 15, 15, 15, 15)
	b.has(t, 0, 0, "g", "h")
	b.play(t, cluster.Round{Losses: toNobody(3)})
	b.takes(t, 13, 15, 13, 13)
}

// TestBag: messages keep their distance, by the plan's time: Rounds times Round and the slot's From.
func TestBag(t *testing.T) {
	p := few(2)
	p.Round = 100
	p.Slots = []api.Slot{slot(0, 10, 25), slot(0, 40, 50), slot(1, 70, 80)}
	for _, c := range []struct {
		bag  int
		went []int // how many went behind each round
	}{
		{1, []int{2, 4, 6, 8, 10}},
		{30, []int{2, 4, 6, 8, 10}},  // from 10 to 40
		{31, []int{1, 2, 3, 4, 5}},   // from 10 to 110
		{70, []int{1, 2, 3, 4, 5}},   // and no sooner
		{100, []int{1, 2, 3, 4, 5}},  // from 10 to 110
		{101, []int{1, 2, 2, 3, 4}},  // from 10 to 140, to 310, to 440
		{130, []int{1, 2, 2, 3, 4}},  // likewise
		{131, []int{1, 1, 2, 2, 3}},  // from 10 to 210, to 410
		{200, []int{1, 1, 2, 2, 3}},  // likewise
		{201, []int{1, 1, 2, 2, 2}},  // from 10 to 240, and to 510
		{400, []int{1, 1, 1, 1, 2}},  // from 10 to 410
		{430, []int{1, 1, 1, 1, 2}},  // to 440
		{431, []int{1, 1, 1, 1, 1}},  // not yet
		{1000, []int{1, 1, 1, 1, 1}}, // not yet
	} {
		p.Links = []api.Link{{From: 0, To: 2, Bag: c.bag, Queue: 16}}
		b := start(t, p, 0, []int{3, -2}) // what clocks show does not matter
		for k := range 16 {
			b.puts(t, 0, fmt.Sprint(k))
		}
		came := 0
		for round, want := range c.went {
			b.rounds(t, 1)
			var l []string
			for ; came < want; came++ {
				l = append(l, fmt.Sprint(came))
			}
			b.has(t, 1, 0, l...)
			if t.Failed() {
				t.Fatalf("Bag %d, round %d", c.bag, round)
			}
		}
	}
}

// TestSeveralLinks of one node: in a slot the message goes of the first one that may let one go.
func TestSeveralLinks(t *testing.T) {
	p := few(3)
	p.Round = 500
	p.Links = []api.Link{{From: 1, To: 1, Bag: 1000, Queue: 9}, {From: 0, To: 2, Bag: 1, Queue: 9}, {From: 1, To: 5, Bag: 1, Queue: 9}, {From: 1, To: 4, Bag: 1, Queue: 9}}
	b := start(t, p, 0, alike(3, 0))
	b.puts(t, 3, "x", "y", "z")
	b.rounds(t, 1) // nothing waits at the first ones
	b.has(t, 2, 3, "x")
	b.puts(t, 0, "a", "b")
	b.puts(t, 2, "m")
	b.rounds(t, 1) // the first one has something
	b.has(t, 0, 0, "a")
	b.has(t, 2, 2)
	b.has(t, 2, 3)
	b.rounds(t, 1) // what waits there may not go yet: it is the second one's turn
	b.has(t, 0, 0)
	b.has(t, 0, 2, "m")
	b.has(t, 2, 2, "m")
	b.has(t, 2, 3)
	b.rounds(t, 1) // now it may
	b.has(t, 0, 0, "b")
	b.has(t, 2, 3)
	b.puts(t, 1, "of node 0")
	b.rounds(t, 1)
	b.has(t, 2, 3, "y")
	b.has(t, 1, 1, "of node 0") // another node's is sent beside it
	b.rounds(t, 2)
	b.has(t, 2, 3, "z")
}

// TestLinkToSeveral: each node to which it goes has a port of its own, and takes by itself what is new there.
func TestLinkToSeveral(t *testing.T) {
	b := start(t, linked(api.Link{From: 0, To: 14, Bag: 1, Queue: 16}), 0, alike(4, 0))
	b.puts(t, 0, "a", "b", "c", "d")
	b.play(t, lose(cluster.Loss{Slot: 0, Channel: 0, To: 2}, cluster.Loss{Slot: 0, Channel: 1, To: 4}))
	b.play(t, lose(cluster.Loss{Slot: 0, Channel: 0, To: 2}, cluster.Loss{Slot: 0, Channel: 1, To: 2}))
	b.has(t, 3, 0, "a", "b")
	b.rounds(t, 2)
	b.has(t, 1, 0, "a", "c", "d")
	b.has(t, 2, 0, "a", "b", "c", "d")
	b.has(t, 3, 0, "c", "d")
}

// TestPortFull: what finds it full is lost, though the receiver took it; and one that is taken out makes room for the next one alone.
func TestPortFull(t *testing.T) {
	b := start(t, linked(api.Link{From: 0, To: 6, Bag: 1, Queue: 16}), 0, alike(4, 0))
	next := 0
	send := func(many int) {
		for range many {
			b.puts(t, 0, fmt.Sprint(next))
			next++
			b.rounds(t, 1)
		}
	}
	list := func(from, to int) (l []string) {
		for ; from < to; from++ {
			l = append(l, fmt.Sprint(from))
		}
		return l
	}
	send(16)
	b.has(t, 2, 0, list(0, 16)...)
	send(2) // lost at node 1
	b.has(t, 2, 0, "16", "17")
	b.receive(t, 1, 0) // 0 is out
	send(2)
	b.has(t, 1, 0, append(list(1, 16), "18")...)
	b.has(t, 2, 0, "18", "19")
	send(20)
	b.has(t, 1, 0, list(20, 36)...)
	b.has(t, 2, 0, list(20, 36)...)
}

// TestUpToMaxTime: at Rounds times Round and the slot's From messages go up to MaxTime, and none above; all else goes on.
func TestUpToMaxTime(t *testing.T) {
	for _, c := range []struct {
		round, rounds int
		from          int // of the last slot in which one goes
	}{
		{longest, 8, 0}, {longest - 1, 8, 8}, {longest - 1000, 8, 8000}, {1<<36 + 1, 15, 1<<36 - 15}, {1 << 36, 16, 0}, {latest / 100, 100, latest % (latest / 100)},
	} {
		p := api.Plan{Nodes: 2, Skew: 1, Round: c.round, Frame: 1}
		p.Slots = []api.Slot{slot(0, c.from, c.from+1), slot(0, c.from+3, c.from+4), slot(1, c.from+6, c.from+7)}
		p.Links = []api.Link{{From: 0, To: 2, Bag: 1, Queue: 4}, {From: 1, To: 1, Bag: 1, Queue: 4}}
		b := start(t, p, 0, []int{0, 0})
		b.rounds(t, c.rounds-1)
		b.puts(t, 0, "a", "b", "c", "d")
		b.puts(t, 1, "m", "n")
		b.rounds(t, 1)
		b.has(t, 1, 0, "a", "b")
		b.has(t, 0, 1, "m")
		b.rounds(t, 1) // at MaxTime, and above it
		b.has(t, 1, 0, "c")
		b.has(t, 0, 1)
		b.rounds(t, 3)
		b.has(t, 1, 0)
		b.has(t, 0, 1)
		b.takes(t, 3, 3) // they hear each other all the same
		b.puts(t, 0, "e", "f", "g")
		no(t, "Put", b.c.Put(0, "h"), api.ErrFull)
		// One above MaxTime in its first slot: nothing goes there, either.
		p.Slots = []api.Slot{slot(0, c.from+1, c.from+2), slot(1, c.from+4, c.from+5)}
		b = start(t, p, 0, []int{0, 0})
		b.puts(t, 1, "m")
		b.rounds(t, c.rounds)
		b.has(t, 0, 1, "m")
		b.puts(t, 0, "a")
		b.rounds(t, 2)
		b.has(t, 1, 0)
	}
}

// TestNumbersGoRound: behind 255 messages the numbers begin again, and none is told twice by the two channels.
func TestNumbersGoRound(t *testing.T) {
	b := start(t, linked(api.Link{From: 0, To: 14, Bag: 1, Queue: 1}), 0, alike(4, 0))
	for k := range 600 {
		b.puts(t, 0, fmt.Sprint(k))
		b.rounds(t, 1)
		for node := 1; node < 4; node++ {
			b.has(t, node, 0, fmt.Sprint(k))
		}
	}
	// Up to 126 in a row that are lost to a node do not hinder the next one; 127 do, and then a newer one is told.
	for _, lost := range []int{1, 100, 126, 127, 253, 254, 255} {
		for k := range lost {
			b.puts(t, 0, fmt.Sprint("lost", k))
			b.play(t, cluster.Round{Losses: []cluster.Loss{{Slot: 0, Channel: 0, To: 4}, {Slot: 0, Channel: 1, To: 4}}})
			b.receive(t, 1, 0)
		}
		b.puts(t, 0, "next")
		b.rounds(t, 1)
		if lost < 127 || lost == 255 {
			b.has(t, 2, 0, "next")
		} else {
			b.has(t, 2, 0)
		}
		b.has(t, 1, 0, "next")
		for range 130 { // all is as before
			b.puts(t, 0, "on")
			b.rounds(t, 1)
			b.receive(t, 1, 0)
			b.receive(t, 2, 0)
		}
		b.drain(t)
	}
}

// TestManyLosses: a round with very many of all ends, and what counts of them counts.
func TestManyLosses(t *testing.T) {
	var r cluster.Round
	for k := range 200_000 {
		r.Losses = append(r.Losses, cluster.Loss{Slot: k%6 - 1, Channel: k%4 - 1, To: k % 8 * 2})
		r.Readings = append(r.Readings, cluster.Reading{Node: k%6 - 1, Of: k%7 - 1, Is: k % 9})
	}
	r.Drifts, r.Modes = alike(200_000, 1), alike(200_000, cluster.Mute)
	b := start(t, four(), 8, alike(4, 0))
	b.play(t, r)
	b.rounds(t, 2)
}

// TestAllLossesOfThree goes through all ways in which what three nodes send is lost to the others, in two rounds; then nothing is lost.
func TestAllLossesOfThree(t *testing.T) {
	p := few(3)
	p.Links = []api.Link{{From: 0, To: 6, Bag: 1, Queue: 3}, {From: 1, To: 5, Bag: 1, Queue: 3}, {From: 2, To: 3, Bag: 1, Queue: 3}}
	for way := range 1 << 12 {
		b := start(t, p, 0, alike(3, 0))
		for link := range 3 {
			b.puts(t, link, "a", "b", "c")
		}
		for round := range 2 {
			var l []cluster.Loss
			for k := range 3 { // of the two others each bit is one
				bits := way >> (6*round + 2*k) & 3
				to := bits&1<<((k+1)%3) | bits>>1<<((k+2)%3)
				l = append(l, cluster.Loss{Slot: k, Channel: 0, To: to}, cluster.Loss{Slot: k, Channel: 1, To: to})
			}
			b.play(t, lose(l...))
		}
		b.rounds(t, 1)
		b.drain(t)
		if t.Failed() {
			t.Fatalf("way %b", way)
		}
	}
}
