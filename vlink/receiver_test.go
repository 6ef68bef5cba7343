package vlink_test

import (
	"fmt"
	"strconv"
	"testing"

	"metronome/vlink"
)

// takes checks Take, and what is counted behind it.
func takes(t *testing.T, r *vlink.Receiver, seq int, want bool) {
	t.Helper()
	told, not := r.Counts()
	if got := r.Take(vlink.Item{Seq: seq}); got != want {
		t.Errorf("Take of %d: %t, want %t", seq, got, want)
	}
	if want {
		told++
	} else {
		not++
	}
	counts(t, r, told, not)
}

// counts checks Counts, and that it changes nothing.
func counts(t *testing.T, r *vlink.Receiver, told, not int) {
	t.Helper()
	for range 2 {
		if a, b := r.Counts(); a != told || b != not {
			t.Errorf("Counts: %d, %d, want %d, %d", a, b, told, not)
		}
	}
}

// newest is a receiver that has a newest number: one of those that may be is told, if there is none yet.
func newest(t *testing.T, seq int) *vlink.Receiver {
	t.Helper()
	r := vlink.NewReceiver()
	takes(t, r, seq, true)
	return r
}

// after is the number that comes behind another one in a sender's order.
func after(seq int) int {
	if seq == 255 {
		return 1
	}
	return seq + 1
}

// leads says whether 1 to 127 steps of a sender's order lead from a number to another one: they are gone one by one.
func leads(from, to int) bool {
	for range 127 {
		from = after(from)
		if from == to {
			return true
		}
	}
	return false
}

// table is leads of each number to each.
func table() (l [256][256]bool) {
	for from := range l {
		for to := range l[from] {
			l[from][to] = leads(from, to)
		}
	}
	return l
}

// seqs are numbers from two ahead of the bounds to two behind them, and far off.
func seqs() []int {
	l := append(append([]int{-2, 256, 257, 258, 511, 512, 1 << 16, 1 << 32, 1<<32 + 1}, belowAll...), aboveAll...)
	for seq := range 256 {
		l = append(l, seq)
	}
	return l
}

// may says whether a number is one of a sender's.
func may(seq int) bool {
	return seq >= 0 && seq <= 255
}

// 7.2: NewReceiver, Take, Counts

func TestNewReceiver(t *testing.T) {
	r := vlink.NewReceiver()
	if r == nil {
		t.Fatal("NewReceiver: none")
	}
	counts(t, r, 0, 0)
}

// TestTakeFirst: each number that may be is told, if there is no newest one yet; one that may not be is none then, either.
func TestTakeFirst(t *testing.T) {
	for _, seq := range seqs() {
		r := vlink.NewReceiver()
		takes(t, r, seq, may(seq))
		if may(seq) {
			counts(t, r, 1, 0)
			takes(t, r, seq, false)
			continue
		}
		counts(t, r, 0, 1)
		takes(t, r, seq, false)
		takes(t, r, 0, true) // 0 is ahead of none: there was no newest number yet
		counts(t, r, 1, 2)
	}
}

// TestTakeByHand: the edges that the document names.
func TestTakeByHand(t *testing.T) {
	for _, c := range []struct {
		newest, seq int
		want        bool
	}{
		{0, 0, false}, {0, 1, true}, {0, 127, true}, {0, 128, false}, {0, 254, false}, {0, 255, false},
		{1, 0, false}, {1, 1, false}, {1, 2, true}, {1, 128, true}, {1, 129, false}, {1, 255, false},
		{127, 0, false}, {127, 126, false}, {127, 128, true}, {127, 254, true}, {127, 255, false}, {127, 1, false},
		{128, 0, false}, {128, 255, true}, {128, 1, false}, {128, 127, false},
		{129, 0, false}, {129, 255, true}, {129, 1, true}, {129, 2, false},
		{200, 0, false}, {200, 255, true}, {200, 1, true}, {200, 72, true}, {200, 73, false}, {200, 199, false}, {200, 201, true},
		{254, 0, false}, {254, 255, true}, {254, 1, true}, {254, 126, true}, {254, 127, false}, {254, 253, false},
		{255, 0, false}, {255, 1, true}, {255, 127, true}, {255, 128, false}, {255, 254, false}, {255, 255, false},
		{0, -1, false}, {0, 256, false}, {255, 256, false}, {255, 257, false}, {255, -1, false}, {200, 256, false}, {200, -200, false},
	} {
		t.Run(fmt.Sprintf("%d behind %d", c.seq, c.newest), func(t *testing.T) {
			takes(t, newest(t, c.newest), c.seq, c.want)
		})
	}
}

// TestTakeEach holds each newest number against each Seq, and against numbers that may not be; behind it the newest number is the one that it must be, whatever comes then.
func TestTakeEach(t *testing.T) {
	ahead := table()
	for from := range 256 {
		for _, seq := range seqs() {
			r := newest(t, from)
			want := may(seq) && ahead[from][seq]
			takes(t, r, seq, want)
			now := from
			if want {
				now = seq
			}
			for _, then := range []int{now, after(now), after(after(now)), 0, 255, (now + 128) % 256, from, 1} {
				takes(t, r, then, ahead[now][then])
				if ahead[now][then] {
					now = then
				}
			}
		}
		if t.Failed() {
			t.FailNow()
		}
	}
}

// TestTakeSteps: of each newest number from 1 on 127 numbers are ahead, 127 behind; of 0 127 are ahead.
func TestTakeSteps(t *testing.T) {
	for from := range 256 {
		seq := from
		for steps := 1; steps <= 254; steps++ {
			seq = after(seq)
			takes(t, newest(t, from), seq, steps <= 127)
		}
	}
}

// TestTakeSame: the same number again and again is told once.
func TestTakeSame(t *testing.T) {
	for seq := range 256 {
		r := newest(t, seq)
		for range 3 {
			takes(t, r, seq, false)
		}
		counts(t, r, 1, 3)
	}
}

// TestTakeOfAnyData: what a message says is nothing to it, and it reads as it did.
func TestTakeOfAnyData(t *testing.T) {
	r := vlink.NewReceiver()
	for k, data := range []string{"", "a", "a", long(40), long(41), long(1 << 16), "\xff\x00", "é"} {
		for _, want := range []bool{true, false} {
			x := vlink.Item{Seq: k, Data: data}
			if got := r.Take(x); got != want {
				t.Errorf("Take of %d, %d bytes: %t, want %t", k, len(data), got, want)
			}
			if x != (vlink.Item{Seq: k, Data: data}) {
				t.Errorf("Take wrote into its message: %v", x)
			}
		}
	}
	counts(t, r, 8, 8)
}

// TestReceiversAreApart: what one receiver takes is nothing to another one.
func TestReceiversAreApart(t *testing.T) {
	a, b := vlink.NewReceiver(), vlink.NewReceiver()
	takes(t, a, 200, true)
	takes(t, a, -1, false)
	counts(t, b, 0, 0)
	takes(t, b, 0, true)
	takes(t, a, 201, true)
	takes(t, b, 1, true)
	counts(t, a, 2, 1)
	counts(t, b, 2, 0)
}

// TestTakeInOrder: of a sender's numbers, one by one, all are told.
func TestTakeInOrder(t *testing.T) {
	r := vlink.NewReceiver()
	for k := range 1000 {
		takes(t, r, number(k), true)
	}
	counts(t, r, 1000, 0)
}

// TestDrawnTakes: numbers that are drawn, mostly near the newest one, against one that goes the steps.
func TestDrawnTakes(t *testing.T) {
	d, ahead, all := die(5), table(), seqs()
	for range 300 {
		r := vlink.NewReceiver()
		now := -1 // none
		told, not := 0, 0
		for k := range 400 {
			seq := d.n(256)
			switch d.n(4) {
			case 0:
				seq = all[d.n(len(all))]
			case 1, 2:
				seq = now + d.n(8) - 3
			}
			want := may(seq) && (now == -1 || ahead[now][seq])
			if r.Take(vlink.Item{Seq: seq, Data: strconv.Itoa(k)}) != want {
				t.Fatalf("Take of %d, newest %d: not %t", seq, now, want)
			}
			if want {
				now = seq
				told++
			} else {
				not++
			}
			counts(t, r, told, not)
		}
	}
}
