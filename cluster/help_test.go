package cluster_test

import (
	"fmt"
	"math"
	"slices"
	"strings"
	"testing"

	"metronome/api"
	"metronome/cluster"
	"metronome/plain"
)

const (
	least    = math.MinInt
	greatest = math.MaxInt
)

// whole, an error's place where it has none.
const whole = -1

// extremes are no nodes, links, slots, channels and modes: as far off as an int goes, and where a shift by them, or a cut to fewer bits, would wrap round to one that is.
var extremes = []int{least, least + 1, least / 2, -1 << 40, -1<<32 - 1, -1 << 32, -256, -65, -64, -63, -2, -1, 62, 63, 64, 65, 128, 256, 1 << 32, 1<<32 + 1, 1 << 40, greatest / 2, greatest - 1, greatest}

// long is a text of so many bytes.
func long(bytes int) string {
	return strings.Repeat("x", bytes)
}

// die gives numbers that look drawn, the same each time.
type die uint64

func (d *die) n(most int) int {
	*d = *d*6364136223846793005 + 1442695040888963407
	return int(uint64(*d>>20) % uint64(most))
}

// around is from -far to far.
func (d *die) around(far int) int {
	return d.n(2*far+1) - far
}

// any is one of some numbers.
func (d *die) any(l []int) int {
	return l[d.n(len(l))]
}

// no checks an error: it is of no place.
func no(t *testing.T, what string, err error, want api.Errno) {
	t.Helper()
	if e, place := plain.Place(err); e != want || place != whole {
		t.Errorf("%s: error %d at %d, want %d", what, e, place, want)
	}
}

func slot(node, from, to int) api.Slot {
	return api.Slot{Node: node, Span: api.Span{From: from, To: to}}
}

// four is a plan of four nodes, of which one may be faulty, each with a slot; without links.
func four() api.Plan {
	return api.Plan{
		Nodes: 4, Faulty: 1, Skew: 20, Jitter: 2, Drift: 2, Round: 200,
		Slots: []api.Slot{slot(0, 10, 20), slot(1, 50, 60), slot(2, 90, 100), slot(3, 130, 140)},
		Frame: 50, Windows: []api.Window{{Part: 1, Span: api.Span{From: 5, To: 9}}, {Part: 2, Span: api.Span{From: 9, To: 50}}},
	}
}

// linked is four with links.
func linked(l ...api.Link) api.Plan {
	p := four()
	p.Links = l
	return p
}

// few is a plan of so many nodes, none of which is faulty, each with a slot.
func few(nodes int) api.Plan {
	p := api.Plan{Nodes: nodes, Skew: 10, Round: 100 * (nodes + 1), Frame: 1}
	for k := range nodes {
		p.Slots = append(p.Slots, slot(k, 100*k, 100*k+10))
	}
	return p
}

// everyone is the bits of so many nodes.
func everyone(nodes int) int {
	return 1<<nodes - 1
}

// alike are clocks of so many nodes that all show the same.
func alike(nodes, show int) []int {
	return slices.Repeat([]int{show}, nodes)
}

// lent is a copy of a list with more behind its length. Asked later, back says whether all of it reads as it did; and all of it is another one from then on.
func lent[T comparable](l []T, other T) (list []T, back func() bool) {
	all := append(slices.Clone(l), other, other)
	before := slices.Clone(all)
	if l != nil {
		list = all[:len(l)]
	}
	return list, func() bool {
		ok := slices.Equal(all, before)
		for i := range all {
			all[i] = other
		}
		return ok
	}
}

// lentPlan is likewise of a plan.
func lentPlan(p api.Plan) (given api.Plan, back func() bool) {
	given = p
	var slots, links, windows func() bool
	given.Slots, slots = lent(p.Slots, slot(15, 1, greatest))
	given.Links, links = lent(p.Links, api.Link{From: 15, To: -1, Bag: 1, Queue: greatest})
	given.Windows, windows = lent(p.Windows, api.Window{Part: -7})
	return given, func() bool {
		a, b, c := slots(), links(), windows()
		return a && b && c
	}
}

// lentRound is likewise of a round.
func lentRound(r cluster.Round) (given cluster.Round, back func() bool) {
	var losses, readings, drifts, modes func() bool
	given.Losses, losses = lent(r.Losses, cluster.Loss{To: -1})
	given.Readings, readings = lent(r.Readings, cluster.Reading{Node: 0, Of: 1, Is: 99})
	given.Drifts, drifts = lent(r.Drifts, 99)
	given.Modes, modes = lent(r.Modes, cluster.Mute)
	return given, func() bool {
		a, b, c, d := losses(), readings(), drifts(), modes()
		return a && b && c && d
	}
}

// both is a cluster, and the second reckoning of it: what is called is called on both, and they must answer alike.
type both struct {
	c *cluster.Cluster
	m *model
}

// start is a cluster that must be there; what was handed in is another one behind it.
func start(t *testing.T, p api.Plan, faulty int, clocks []int) *both {
	t.Helper()
	b := &both{m: newModel(p, faulty, clocks)}
	given, planBack := lentPlan(p)
	l, clocksBack := lent(clocks, 77)
	c, err := cluster.New(given, faulty, l)
	if err != nil || c == nil {
		t.Fatalf("New(%+v, %b, %v): %v, %v", p, faulty, clocks, c, err)
	}
	if !planBack() || !clocksBack() {
		t.Errorf("New(%+v, %b, %v): what was handed in reads otherwise afterwards", p, faulty, clocks)
	}
	b.c = c
	b.same(t)
	return b
}

// refuses checks that New tells an error, and no cluster beside it.
func refuses(t *testing.T, name string, p api.Plan, faulty int, clocks []int, want api.Errno, place int) {
	t.Helper()
	given, planBack := lentPlan(p)
	l, clocksBack := lent(clocks, 77)
	c, err := cluster.New(given, faulty, l)
	if e, at := plain.Place(err); e != want || at != place || c != nil {
		t.Errorf("%s: New(%+v, %b, %v): %v, error %d at %d, want error %d at %d", name, p, faulty, clocks, c, e, at, want, place)
	}
	if !planBack() || !clocksBack() {
		t.Errorf("%s: what was handed in reads otherwise afterwards", name)
	}
}

// same checks all that a cluster shows without being changed, and that what it gives out is the caller's.
func (b *both) same(t *testing.T) {
	t.Helper()
	for range 2 {
		l := b.c.Clocks()
		if !slices.Equal(l, b.m.clocks) {
			t.Errorf("round %d: Clocks: %v, want %v", b.m.rounds, l, b.m.clocks)
		}
		clear(l[:cap(l)]) // asked again, they must be there
	}
	if s := b.c.Spread(); s != b.m.spread() || s > b.m.plan.Skew {
		t.Errorf("round %d: Spread: %d, want %d, at most %d", b.m.rounds, s, b.m.spread(), b.m.plan.Skew)
	}
	if n := b.c.Rounds(); n != b.m.rounds {
		t.Errorf("Rounds: %d, want %d", n, b.m.rounds)
	}
	for node, p := range b.m.peers {
		members, frozen, err := b.c.Members(node)
		if members != p.members.bits() || frozen != p.frozen || err != nil {
			t.Errorf("round %d: Members(%d): %b, %t, %v, want %b, %t", b.m.rounds, node, members, frozen, err, p.members.bits(), p.frozen)
		}
	}
}

// play lets a round go by.
func (b *both) play(t *testing.T, r cluster.Round) {
	t.Helper()
	want := b.m.play(r)
	given, back := lentRound(r)
	no(t, fmt.Sprintf("Play(%+v)", r), b.c.Play(given), want)
	if !back() {
		t.Errorf("Play(%+v): what was handed in reads otherwise afterwards", r)
	}
	b.same(t)
}

// rounds lets some go by in which nothing happens beside the plan.
func (b *both) rounds(t *testing.T, many int) {
	t.Helper()
	for range many {
		b.play(t, cluster.Round{})
	}
}

// put lets a message wait.
func (b *both) put(t *testing.T, link int, data string) {
	t.Helper()
	no(t, fmt.Sprintf("Put(%d, %q)", link, data), b.c.Put(link, data), b.m.put(link, data))
	b.same(t)
}

// puts lets messages wait, each of which must find room.
func (b *both) puts(t *testing.T, link int, l ...string) {
	t.Helper()
	for _, data := range l {
		no(t, fmt.Sprintf("Put(%d, %q)", link, data), b.c.Put(link, data), api.OK)
		b.m.put(link, data)
	}
	b.same(t)
}

// receive takes one message out, or none.
func (b *both) receive(t *testing.T, node, link int) {
	t.Helper()
	want, e := b.m.receive(node, link)
	data, err := b.c.Receive(node, link)
	no(t, fmt.Sprintf("Receive(%d, %d)", node, link), err, e)
	if data != want {
		t.Errorf("round %d: Receive(%d, %d): %q, want %q", b.m.rounds, node, link, data, want)
	}
}

// has checks which messages of a link are at a node, and takes them out.
func (b *both) has(t *testing.T, node, link int, want ...string) {
	t.Helper()
	for _, data := range want {
		x, err := b.c.Receive(node, link)
		no(t, fmt.Sprintf("Receive(%d, %d)", node, link), err, api.OK)
		if x != data {
			t.Errorf("Receive(%d, %d): %q, want %q", node, link, x, data)
		}
		b.m.receive(node, link)
	}
	for range 2 {
		b.nothing(t, node, link, api.ErrNone)
	}
}

// nothing checks that Receive tells an error, and nothing beside it.
func (b *both) nothing(t *testing.T, node, link int, want api.Errno) {
	t.Helper()
	x, err := b.c.Receive(node, link)
	no(t, fmt.Sprintf("Receive(%d, %d)", node, link), err, want)
	if x != "" {
		t.Errorf("Receive(%d, %d): %q, want none", node, link, x)
	}
}

// drain takes all out of all ports, and asks for some that are none.
func (b *both) drain(t *testing.T) {
	t.Helper()
	for link := -1; link <= len(b.m.lines); link++ {
		for node := -1; node <= b.m.plan.Nodes; node++ {
			for range mostWait + 2 {
				b.receive(t, node, link)
			}
		}
	}
	b.same(t)
}

// shows checks what clocks show.
func (b *both) shows(t *testing.T, want ...int) {
	t.Helper()
	if l := b.c.Clocks(); !slices.Equal(l, want) {
		t.Errorf("Clocks: %v, want %v", l, want)
	}
}

// takes checks whom nodes take as members, node by node; below 0: it is frozen, and takes what that is turned.
func (b *both) takes(t *testing.T, want ...int) {
	t.Helper()
	for node, members := range want {
		froze := members < 0
		if froze {
			members = ^members
		}
		m, frozen, err := b.c.Members(node)
		if m != members || frozen != froze || err != nil {
			t.Errorf("Members(%d): %b, %t, %v, want %b, %t", node, m, frozen, err, members, froze)
		}
	}
}

// toNobody are losses of a slot on both channels, to all.
func toNobody(slot int) []cluster.Loss {
	return []cluster.Loss{{Slot: slot, Channel: 0, To: -1}, {Slot: slot, Channel: 1, To: -1}}
}
