package vlink_test

import (
	"fmt"
	"slices"
	"strconv"
	"testing"

	"metronome/api"
	"metronome/vlink"
)

// What a sender and a receiver promise together, over two channels that lose: once, and in order. Messages are told apart by their places among those that were sent (their Data), not by their numbers.

// bound is what 7.3 names: less than so many behind the other channel, less than so many lost by both.
const bound = 127

// sent are so many messages that a sender let go, in order.
func sent(t *testing.T, many int) (l []vlink.Item) {
	t.Helper()
	const bag = 3
	s := made(t, bag, 4)
	put := 0
	for now := 0; len(l) < many; now++ {
		for put < many && s.Many() < 4 {
			no(t, "Put", s.Put(strconv.Itoa(put)), api.OK)
			put++
		}
		x, err := s.Send(now)
		if err == nil {
			l = append(l, x)
		} else {
			no(t, fmt.Sprintf("Send(%d)", now), err, api.ErrNone)
		}
		if want := now/bag + 1; len(l) != want {
			t.Fatalf("%d went until %d, want %d", len(l), now, want)
		}
	}
	return l
}

// told lets messages come to a receiver, by their places, and is the places of those that it tells; these must be in order, none twice.
func told(t *testing.T, items []vlink.Item, comes []int) (l []int) {
	t.Helper()
	r := vlink.NewReceiver()
	for _, k := range comes {
		if !r.Take(items[k]) {
			continue
		}
		place, err := strconv.Atoi(items[k].Data)
		if err != nil || place != k {
			t.Fatalf("message %d says %q", k, items[k].Data)
		}
		if len(l) > 0 && place <= l[len(l)-1] {
			t.Fatalf("%d is told behind %d; what came: %v", place, l[len(l)-1], comes)
		}
		l = append(l, place)
	}
	counts(t, r, len(l), len(comes)-len(l))
	return l
}

// tells checks which messages are told, of those that come.
func tells(t *testing.T, what string, items []vlink.Item, comes, want []int) {
	t.Helper()
	if got := told(t, items, comes); !slices.Equal(got, want) {
		t.Fatalf("%s: told: %v, want %v; what came: %v", what, got, want, comes)
	}
}

// first are those of what comes that are newer than all that came before.
func first(comes []int) (l []int) {
	for _, k := range comes {
		if len(l) == 0 || k > l[len(l)-1] {
			l = append(l, k)
		}
	}
	return l
}

// span are the places from one to another one (that one not).
func span(from, to int) (l []int) {
	for k := from; k < to; k++ {
		l = append(l, k)
	}
	return l
}

// union are the places that one of both brings, rising.
func union(a, b []int) []int {
	l := slices.Concat(a, b)
	slices.Sort(l)
	return slices.Compact(l)
}

// ways are all orders in which what two channels bring may come.
func ways(a, b []int, so []int, do func(comes []int)) {
	if len(a) == 0 && len(b) == 0 {
		do(so)
	}
	if len(a) > 0 {
		ways(a[1:], b, append(so[:len(so):len(so)], a[0]), do)
	}
	if len(b) > 0 {
		ways(a, b[1:], append(so[:len(so):len(so)], b[0]), do)
	}
}

// some are those of many messages, from one on, whose bits are set.
func some(from, many, bits int) (l []int) {
	for k := range many {
		if bits>>k&1 == 1 {
			l = append(l, from+k)
		}
	}
	return l
}

// TestAllShortChannels goes through all that two channels may bring of four messages, in all orders: at the very beginning, behind it, and where the numbers begin again; each is told that is newer than all that came before.
func TestAllShortChannels(t *testing.T) {
	const many = 4
	items := sent(t, 520)
	for _, from := range []int{0, 1, 2, 127, 252, 253, 254, 255, 256, 257, 508, 510, 511} {
		var before []int
		if from > 0 {
			before = []int{from - 1} // it is told, for there is none yet
		}
		for a := range 1 << many {
			for b := range 1 << many {
				ways(some(from, many, a), some(from, many, b), before, func(comes []int) {
					tells(t, "a short way", items, comes, first(comes))
				})
			}
		}
	}
}

// TestBothBring: what both bring is told, whichever is the first one, at any order of what comes.
func TestBothBring(t *testing.T) {
	items := sent(t, 300)
	for _, from := range []int{0, 1, 251, 255} {
		l := span(from, from+5)
		ways(l, l, nil, func(comes []int) {
			tells(t, "both bring all", items, comes, l)
		})
	}
}

// TestOneAlone: all that the only channel brings is told, though up to 126 in a row are lost.
func TestOneAlone(t *testing.T) {
	items := sent(t, 1200)
	all := span(0, len(items))
	tells(t, "nothing is lost", items, all, all)
	for lost := 1; lost < bound; lost++ {
		for from := range 3 {
			var l []int
			for k := from; k < len(items); k += lost + 1 {
				l = append(l, k)
			}
			tells(t, fmt.Sprintf("%d lost in a row", lost), items, l, l)
		}
	}
	for k := range 520 {
		gap := []int{k, k + bound, k + 2*bound, k + 2*bound + 1}
		tells(t, "126 lost in a row", items, gap, gap)
	}
}

// TestOneBehind: the other channel brings all up to 126 behind: none of it is told again.
func TestOneBehind(t *testing.T) {
	items := sent(t, 900)
	all := span(0, len(items))
	for behind := range bound {
		var comes []int
		for k := range items {
			comes = append(comes, k)
			if k >= behind {
				comes = append(comes, k-behind)
			}
		}
		tells(t, fmt.Sprintf("%d behind", behind), items, comes, all)
	}
}

// TestBehindInBursts: the other channel stands still, and brings then all up to where it is even with the first one.
func TestBehindInBursts(t *testing.T) {
	items := sent(t, 900)
	for _, burst := range []int{1, 2, 50, 126, 127} {
		var comes []int
		for k := 0; k < len(items); k += burst {
			piece := span(k, min(k+burst, len(items)))
			comes = append(append(comes, piece...), piece...) // its first one is burst-1 behind
		}
		tells(t, fmt.Sprintf("bursts of %d", burst), items, comes, span(0, len(items)))
	}
}

// TestInStep: of channels that are not behind each other all that one of them brings is told, whichever is the first one of both.
func TestInStep(t *testing.T) {
	items := sent(t, 1000)
	for from := range 2 { // each brings what the other one loses
		var a, b []int
		for k := range items {
			if k%2 == from {
				a = append(a, k)
			} else {
				b = append(b, k)
			}
		}
		tells(t, "in turn", items, union(a, b), span(0, len(items)))
	}
	d := die(19)
	for range 200 {
		a, b := d.channels(len(items))
		comes := slices.Concat(a, b)
		slices.Sort(comes) // what both bring comes twice
		tells(t, "in step", items, comes, union(a, b))
	}
}

// TestFirstOfBoth: of a channel that is never behind the other one all is told, and nothing else.
func TestFirstOfBoth(t *testing.T) {
	items, d := sent(t, 1000), die(23)
	for range 200 {
		a, b := d.channels(len(items))
		a = d.fill(a, nil, len(items)) // it alone loses less than 127
		var comes []int
		for i, at := 0, 0; i < len(a); i++ {
			comes = append(comes, a[i])
			for at < len(b) && (b[at] <= a[i]-d.n(bound) || i+1 < len(a) && b[at] <= a[i+1]-bound) {
				if b[at] <= a[i] {
					comes = append(comes, b[at])
				}
				at++ // what is newer is lost
			}
		}
		tells(t, "the first one of both", items, comes, a)
	}
}

// brings is what a channel brings of many messages: it loses some by and by, or in a row.
func (d *die) brings(many int) (l []int) {
	often, longest := 1+d.n(40), 1+d.n(260)
	for k := 0; k < many; k++ {
		if d.n(often) == 0 {
			k += d.n(longest)
			continue
		}
		l = append(l, k)
	}
	return l
}

// fill is a channel that brings some more, so that both lose less than 127 in a row.
func (d *die) fill(a, b []int, many int) []int {
	l := slices.Clone(a)
	come := union(a, b)
	for k, lost := 0, 0; k < many; k++ {
		if _, ok := slices.BinarySearch(come, k); ok {
			lost = 0
			continue
		}
		lost++
		if lost == bound {
			l = append(l, k)
			lost = 0
		}
	}
	slices.Sort(l)
	return l
}

// channels is what two channels bring of many messages: less than 127 in a row are lost by both.
func (d *die) channels(many int) (a, b []int) {
	a, b = d.brings(many), d.brings(many)
	if d.n(2) == 0 {
		return d.fill(a, b, many), b
	}
	return a, d.fill(b, a, many)
}

// comes is an order in which what two channels bring comes: each in order, none 127 behind what came by the other one; with step, one that is newer than all is at most so many steps ahead of them.
func (d *die) comes(a, b []int, step int) (l []int) {
	newest := -1 // none
	rest := [2][]int{a, b}
	turn, stays := 0, 1+d.n(300)
	for len(rest[0])+len(rest[1]) > 0 {
		if d.n(stays) == 0 {
			turn = 1 - turn
		}
		if !mayCome(rest[turn], rest[1-turn], newest, step) {
			turn = 1 - turn
		}
		k := rest[turn][0]
		rest[turn] = rest[turn][1:]
		newest = max(newest, k)
		l = append(l, k)
	}
	return l
}

// mayCome says whether a channel's next one may come ahead of the other one's.
func mayCome(next, other []int, newest, step int) bool {
	if len(next) == 0 {
		return false
	}
	if len(other) > 0 && next[0]-other[0] >= bound {
		return false
	}
	return newest == -1 || next[0]-newest <= step || len(other) == 0
}

// TestDrawnChannels: each one that is newer than all that came before is told, and nothing else, if 127 never are missing as it comes (lost by both, or not there yet).
func TestDrawnChannels(t *testing.T) {
	items, d := sent(t, 1500), die(29)
	for range 400 {
		a, b := d.channels(len(items))
		comes := d.comes(a, b, bound)
		tells(t, "drawn", items, comes, first(comes))
	}
}

// TestDrawnChannelsFarApart: where one is behind, and many are lost by both, too, one may be more than 127 ahead of the newest one as it comes: what is told is in order, none twice, then, too.
func TestDrawnChannelsFarApart(t *testing.T) {
	items, d := sent(t, 1500), die(31)
	for range 400 {
		a, b := d.channels(len(items))
		told(t, items, d.comes(a, b, len(items)))
	}
}

// TestLostAndBehind is the edge of that: one that is 253 steps ahead is not told, what comes behind it is.
func TestLostAndBehind(t *testing.T) {
	items := sent(t, 900)
	for k := range 520 {
		// Both lose k+1 to k+126; the first one brings k+127, the other one k+253, 126 ahead of it.
		tells(t, "lost, and behind", items, []int{k, k + 253, k + 127, k + 254}, []int{k, k + 127, k + 254})
	}
}
