package cluster_test

import (
	"fmt"
	"slices"
	"testing"

	"metronome/api"
	"metronome/cluster"
)

// 10.2: Play, first clocks

// read is a round with readings alone.
func read(l ...cluster.Reading) cluster.Round {
	return cluster.Round{Readings: l}
}

// after checks what clocks show behind a round, of a cluster that is made for it.
func after(t *testing.T, p api.Plan, faulty int, clocks []int, r cluster.Round, want ...int) {
	t.Helper()
	b := start(t, p, faulty, clocks)
	b.play(t, r)
	b.shows(t, want...)
	if n := b.c.Rounds(); n != 1 {
		t.Errorf("Rounds: %d, want 1", n)
	}
}

// TestClocksAgree: with nothing read wrong all show the middle, without as many as Faulty on each side, rounded down.
func TestClocksAgree(t *testing.T) {
	for _, c := range []struct {
		faulty int
		clocks []int
		want   int
	}{
		{0, []int{0, 10, 16, 4}, 7},
		{0, []int{16, 4, 0, 11}, 7},
		{0, []int{-16, -4, 0, -11}, -8},
		{0, []int{-1, 0, 1, 0}, 0},
		{0, []int{-1, 0, 1, -1}, -1},
		{0, []int{5, 5, 5, 5}, 5},
		{8, []int{0, 10, 4, 1000}, 7},
		{4, []int{0, 10, -1000, 4}, 2},
		{1, []int{quarter, 3, 9, 20}, 14},
		{1, []int{-quarter, 3, 9, 20}, 6},
	} {
		after(t, four(), c.faulty, c.clocks, cluster.Round{}, alike(4, c.want)...)
	}
	p := four()
	p.Faulty = 0 // nobody is left out
	after(t, p, 0, []int{0, 10, 17, 4}, cluster.Round{}, 8, 8, 8, 8)
	after(t, few(1), 0, []int{-9}, cluster.Round{}, -9)
	after(t, few(2), 0, []int{0, -9}, cluster.Round{}, -5, -5)
	seven := few(7)
	seven.Faulty = 2
	after(t, seven, 0, []int{1, 2, 3, 4, 6, 9, 10}, cluster.Round{}, alike(7, 4)...)
}

// TestReadings: of two nodes, how wrong the one reads the other one; that alone changes the one that reads.
func TestReadings(t *testing.T) {
	p := few(2) // the middle of what is read, and 0: half of it
	p.Skew, p.Jitter = 40, 9
	for d := range 2 { // apart by 0, or by 1: so each step of what is read is seen
		for is := -25; is <= 25; is++ {
			far := d + min(max(is, -9), 9)
			half := (far + 100) / 2 // rounded down, for it is above 0
			after(t, p, 0, []int{0, d}, read(cluster.Reading{Node: 0, Of: 1, Is: is}), half-50, d/2)
			back := -d + min(max(is, -9), 9)
			after(t, p, 0, []int{0, d}, read(cluster.Reading{Node: 1, Of: 0, Is: is}), 0, d+(back+100)/2-50)
		}
	}
	after(t, p, 0, []int{0, 4}, read(cluster.Reading{Node: 0, Of: 1, Is: 4}), 4, 2)
	after(t, p, 0, []int{0, 4}, read(cluster.Reading{Node: 0, Of: 1, Is: -4}), 0, 2)
	after(t, p, 0, []int{0, 5}, read(cluster.Reading{Node: 0, Of: 1, Is: 9}), 7, 2)
	after(t, p, 0, []int{0, 5}, read(cluster.Reading{Node: 0, Of: 1, Is: 10}), 7, 2)
	after(t, p, 0, []int{0, 5}, read(cluster.Reading{Node: 0, Of: 1, Is: -9}), -2, 2)
	after(t, p, 0, []int{0, 4}, read(cluster.Reading{Node: 0, Of: 1, Is: -9}), -3, 2)
	after(t, p, 0, []int{0, 4}, read(cluster.Reading{Node: 0, Of: 1, Is: -10}), -3, 2)
	for _, great := range []int{greatest, greatest - 1, greatest / 2, latest, half, 1 << 32} {
		after(t, p, 0, []int{0, 5}, read(cluster.Reading{Node: 0, Of: 1, Is: great}), 7, 2)
		after(t, p, 0, []int{0, 5}, read(cluster.Reading{Node: 0, Of: 1, Is: -great}), -2, 2)
	}
	for _, small := range []int{least, least + 1, least / 2} {
		after(t, p, 0, []int{0, 5}, read(cluster.Reading{Node: 0, Of: 1, Is: small}), -2, 2)
	}
	p.Jitter = 0
	after(t, p, 0, []int{0, 5}, read(cluster.Reading{Node: 0, Of: 1, Is: 1}, cluster.Reading{Node: 1, Of: 0, Is: -1}), 2, 2)
}

// TestReadingsTwice: of the same two the last one counts, and is of what was read without the others.
func TestReadingsTwice(t *testing.T) {
	p := few(2)
	p.Skew, p.Jitter = 40, 9
	a := func(is int) cluster.Reading { return cluster.Reading{Node: 0, Of: 1, Is: is} }
	b := func(is int) cluster.Reading { return cluster.Reading{Node: 1, Of: 0, Is: is} }
	after(t, p, 0, []int{0, 4}, read(a(8), a(8)), 6, 2)
	after(t, p, 0, []int{0, 4}, read(a(8), a(-4)), 0, 2)
	after(t, p, 0, []int{0, 4}, read(a(-4), a(8)), 6, 2)
	after(t, p, 0, []int{0, 4}, read(a(8), b(8), a(0)), 2, 6)
	after(t, p, 0, []int{0, 4}, read(a(8), a(0), a(100)), 6, 2)
	after(t, p, 0, []int{0, 4}, read(b(-8), a(8), b(-2), a(2)), 3, 1)
	// A round later nothing of it is left.
	c := start(t, p, 0, []int{0, 4})
	c.play(t, read(a(8)))
	c.shows(t, 6, 2)
	c.rounds(t, 1)
	c.shows(t, 4, 4)
}

// TestReadingsOfNobody: of nodes that are none, and of a node by itself: nothing.
func TestReadingsOfNobody(t *testing.T) {
	p := four()
	for _, faulty := range []int{0, 1, 2, 4, 8} {
		for _, is := range []int{least, -half, -2, 2, 7, half, greatest} {
			for node := range 4 {
				after(t, p, faulty, []int{0, 10, 16, 4}, read(cluster.Reading{Node: node, Of: node, Is: is}), 7, 7, 7, 7)
				for _, nobody := range append([]int{-1, 4, 5, 16}, extremes...) {
					after(t, p, faulty, []int{0, 10, 16, 4}, read(cluster.Reading{Node: node, Of: nobody, Is: is}, cluster.Reading{Node: nobody, Of: node, Is: is}), 7, 7, 7, 7)
				}
			}
		}
	}
	for _, a := range extremes {
		for _, b := range extremes {
			after(t, p, 8, []int{0, 10, 16, 4}, read(cluster.Reading{Node: a, Of: b, Is: 2}), 7, 7, 7, 7)
		}
	}
	// What stands behind one that is nothing counts all the same.
	after(t, few(2), 0, []int{0, 4}, read(cluster.Reading{Node: 0, Of: 0, Is: 9}, cluster.Reading{Node: 2, Of: 0, Is: 9}, cluster.Reading{Node: 0, Of: 1, Is: 9}), 2, 2)
	jitter := few(2)
	jitter.Skew, jitter.Jitter = 40, 9
	after(t, jitter, 0, []int{0, 4}, read(cluster.Reading{Node: 0, Of: 0, Is: 9}, cluster.Reading{Node: 2, Of: 0, Is: 9}, cluster.Reading{Node: 0, Of: 1, Is: 8}), 6, 2)
}

// TestReadingsOfFaulty: it is what is told, whatever its clock shows; one that is not faulty is read by its clock, though a faulty one reads it.
func TestReadingsOfFaulty(t *testing.T) {
	p := four()
	clocks := []int{0, 4, 10, 1000}
	for _, c := range []struct{ is, want int }{ // node 0 reads 0, 4, 10 and this
		{-greatest, 2}, {-half, 2}, {-1, 2}, {0, 2}, {1, 2}, {2, 3}, {4, 4}, {5, 4}, {8, 6}, {9, 6}, {10, 7}, {11, 7}, {1000, 7}, {greatest, 7}, {least, 2},
	} {
		after(t, p, 8, clocks, read(cluster.Reading{Node: 0, Of: 3, Is: c.is}), c.want, 7, 7, 7)
	}
	// It does not add to anything, and of two the last one counts.
	after(t, p, 8, clocks, read(cluster.Reading{Node: 0, Of: 3, Is: 5}, cluster.Reading{Node: 0, Of: 3, Is: 4}), 4, 7, 7, 7)
	// By the faulty one others are read with Jitter: -1000 + 2, -996 + 2, -990 + 2, and 0.
	after(t, p, 8, clocks, read(cluster.Reading{Node: 3, Of: 0, Is: 5}, cluster.Reading{Node: 3, Of: 1, Is: 5}, cluster.Reading{Node: 3, Of: 2, Is: 5}), 7, 7, 7, 9)
	after(t, p, 8, clocks, read(cluster.Reading{Node: 3, Of: 0, Is: -5}, cluster.Reading{Node: 3, Of: 1, Is: -5}, cluster.Reading{Node: 3, Of: 2, Is: -5}), 7, 7, 7, 5)
	// Who is not faulty is read with Jitter, though another one is.
	after(t, p, 8, clocks, read(cluster.Reading{Node: 0, Of: 1, Is: 100}), 8, 7, 7, 7)
	after(t, p, 1, []int{1000, 0, 4, 10}, read(cluster.Reading{Node: 1, Of: 0, Is: 4}), 7, 4, 7, 7)
}

// TestFarthestLie: a reading of a faulty one is cut at MaxTime / 2. It is seen where another faulty one is as far off: of seven nodes, of which two are faulty, node 0 is at one end and reads node 1, and all others are at the other end, read beyond that by two.
func TestFarthestLie(t *testing.T) {
	p := api.Plan{Nodes: 7, Faulty: 2, Skew: 200, Jitter: 40, Round: 1000, Frame: 1}
	for _, sign := range []int{1, -1} {
		clocks := alike(7, sign*(quarter-21))
		clocks[0] = -sign * quarter
		lie := func(is int) cluster.Round {
			return read(cluster.Reading{Node: 0, Of: 2, Is: sign * 40}, cluster.Reading{Node: 0, Of: 3, Is: sign * 40}, cluster.Reading{Node: 0, Of: 1, Is: is})
		}
		// Left are half - 21, twice, and the lie: half, less 10.5, rounded down.
		at := func(least, greatest int) int { // what it shows then, by the two that count
			both := least + greatest
			return -sign*quarter + (both-((both%2)+2)%2)/2
		}
		others := clocks[1:]
		for _, c := range []struct{ is, counts int }{
			{half - 2, half - 2}, {half - 1, half - 1}, {half, half}, {half + 1, half}, {half + 2, half}, {half + 19, half}, {latest, half}, {greatest - 1, half}, {greatest, half},
		} {
			want := at(half-21, c.counts)
			if sign < 0 {
				want = at(-c.counts, 21-half)
			}
			after(t, p, 3, clocks, lie(sign*c.is), append([]int{want}, others...)...)
		}
		if sign < 0 {
			after(t, p, 3, clocks, lie(least), append([]int{at(-half, 21-half)}, others...)...)
		}
	}
}

// TestDrifts: each node's, cut within the plan's; none is 0.
func TestDrifts(t *testing.T) {
	clocks := []int{0, 4, 10, 16} // 7 each, but for drifts
	for _, c := range []struct{ drifts, want []int }{
		{nil, []int{7, 7, 7, 7}},
		{[]int{}, []int{7, 7, 7, 7}},
		{[]int{1}, []int{8, 7, 7, 7}},
		{[]int{1, -1, 2}, []int{8, 6, 9, 7}},
		{[]int{0, 0, 0, -2}, []int{7, 7, 7, 5}},
		{[]int{2, -2, 1, -1}, []int{9, 5, 8, 6}},
		{[]int{3, -3, 2, -2}, []int{9, 5, 9, 5}},
		{[]int{100, -100, 0, 0}, []int{9, 5, 7, 7}},
		{[]int{greatest, least, greatest - 1, least + 1}, []int{9, 5, 9, 5}},
		{[]int{1, 1, 1, 1, 2}, []int{8, 8, 8, 8}},
		{[]int{0, 0, 0, 0, greatest, least, 5}, []int{7, 7, 7, 7}},
		{alike(1000, -1), []int{6, 6, 6, 6}},
	} {
		for _, faulty := range []int{0, 1, 8} { // a faulty one's likewise
			after(t, four(), faulty, clocks, cluster.Round{Drifts: c.drifts}, c.want...)
		}
	}
	p := four()
	p.Drift = 0
	after(t, p, 0, clocks, cluster.Round{Drifts: []int{1, -1, greatest, least}}, 7, 7, 7, 7)
	// A drift is of that round alone.
	b := start(t, four(), 0, clocks)
	b.play(t, cluster.Round{Drifts: []int{2, 2, 2, 2}})
	b.rounds(t, 2)
	b.shows(t, 9, 9, 9, 9)
	b.play(t, cluster.Round{Drifts: []int{-1, -1, -1, -1}})
	b.shows(t, 8, 8, 8, 8)
}

// TestClockTooFar: just within MaxTime / 4 a round goes by; one beyond nothing happens.
func TestClockTooFar(t *testing.T) {
	for _, sign := range []int{1, -1} {
		alone := few(1)
		alone.Drift = 2
		for _, c := range []struct {
			clock, drift int
			want         api.Errno
		}{
			{quarter - 2, 2, api.OK}, {quarter - 1, 1, api.OK}, {quarter - 1, 2, api.ErrState}, {quarter, 0, api.OK}, {quarter, 1, api.ErrState}, {quarter, -1, api.OK}, {quarter - 2, 3, api.OK}, {quarter - 1, greatest, api.ErrState},
		} {
			b := start(t, alone, 0, []int{sign * c.clock})
			r := cluster.Round{Drifts: []int{sign * c.drift}}
			want, rounds := sign*c.clock, 0
			if c.want == api.OK {
				want, rounds = want+sign*min(c.drift, 2), 1
			}
			no(t, fmt.Sprintf("Play(%v) at %d", r, sign*c.clock), b.c.Play(r), c.want)
			b.shows(t, want)
			if n := b.c.Rounds(); n != rounds {
				t.Errorf("Rounds: %d, want %d", n, rounds)
			}
		}
		for node := range 4 { // any one, a faulty one, too
			for _, faulty := range []int{0, 1, 2, 4, 8} {
				r := cluster.Round{Drifts: alike(4, -sign)}
				r.Drifts[node] = sign
				b := start(t, four(), faulty, alike(4, sign*quarter))
				b.play(t, r)
				b.shows(t, alike(4, sign*quarter)...)
				r.Drifts[node] = 0
				b.play(t, r)
				want := alike(4, sign*(quarter-1))
				want[node] = sign * quarter
				b.shows(t, want...)
			}
		}
		// What is read may lead beyond, if a drift leads back: one that is within then is within.
		b := start(t, four(), 0, alike(4, sign*quarter))
		beyond := read(cluster.Reading{Node: 0, Of: 1, Is: sign * 2}, cluster.Reading{Node: 0, Of: 2, Is: sign * 2}, cluster.Reading{Node: 0, Of: 3, Is: sign * 2})
		no(t, "Play beyond", b.c.Play(beyond), api.ErrState)
		b.shows(t, alike(4, sign*quarter)...)
		beyond.Drifts = []int{-sign}
		no(t, "Play one beyond", b.c.Play(beyond), api.ErrState)
		b.shows(t, alike(4, sign*quarter)...)
		beyond.Drifts = []int{-sign * 2}
		b.play(t, beyond)
		b.shows(t, alike(4, sign*quarter)...)
		if n := b.c.Rounds(); n != 1 {
			t.Errorf("Rounds: %d, want 1", n)
		}
	}
}

// TestNothingElseHappens: in a round that is none nothing is sent, nothing is heard, and no time goes by.
func TestNothingElseHappens(t *testing.T) {
	p := linked(api.Link{From: 0, To: 14, Bag: 150, Queue: 3})
	b := start(t, p, 8, alike(4, quarter))
	b.puts(t, 0, "a", "b")
	wrong := cluster.Round{Drifts: []int{0, 0, 0, 1}, Losses: slices.Concat(toNobody(1), toNobody(2)), Modes: []int{0, 0, 0, cluster.Mute}}
	for range 3 {
		no(t, "Play", b.c.Play(wrong), api.ErrState)
		b.same(t)
		b.takes(t, 15, 15, 15, 15)
		for node := 1; node < 4; node++ {
			b.nothing(t, node, 0, api.ErrNone)
		}
	}
	b.puts(t, 0, "c")
	no(t, "Put", b.c.Put(0, "d"), api.ErrFull)
	b.rounds(t, 1)
	for range 3 {
		no(t, "Play", b.c.Play(wrong), api.ErrState)
	}
	b.rounds(t, 1)
	b.has(t, 1, 0, "a", "b")
	b.has(t, 3, 0, "a", "b")
	wrong.Drifts = nil
	b.play(t, wrong)
	b.takes(t, 1, 3, 5, 9)
	b.has(t, 2, 0, "a", "b", "c")
}
