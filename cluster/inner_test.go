package cluster

import (
	"testing"

	"metronome/api"
)

// TestVeryManyRounds: behind so many rounds that their time is beyond an int no message goes, though wrapped round that time would be within what may be. They are not played one by one, but told: from outside that would take too long.
func TestVeryManyRounds(t *testing.T) {
	for _, round := range []int{api.MaxTime / 8, api.MaxTime/8 - 1, api.MaxTime / 16} {
		p := api.Plan{Nodes: 2, Skew: 1, Round: round, Frame: 1, Slots: []api.Slot{{Node: 0, Span: api.Span{From: 9, To: 10}}}}
		p.Links = []api.Link{{From: 0, To: 2, Bag: 1, Queue: 1}}
		for _, rounds := range []int{9, 16, 17, 1 << 20, 1<<26 - 1, 1 << 26, 1 << 27, 1<<27 + 1, 1 << 28, 1<<28 + 1, 1 << 29, 1 << 30, 1<<31 - 2, 1<<31 - 1} {
			c, err := New(p, 0, []int{0, 0})
			if err != nil {
				t.Fatal(err)
			}
			if err := c.Put(0, "a"); err != nil {
				t.Fatal(err)
			}
			c.rounds = rounds
			if err := c.Play(Round{}); err != nil || c.Rounds() != rounds+1 {
				t.Errorf("Play behind %d: %v, Rounds: %d", rounds, err, c.Rounds())
			}
			goes := rounds*(round>>20) < api.MaxTime>>20 // in greater steps it does not wrap round
			data, err := c.Receive(1, 0)
			if e := api.Tell(err); goes && (e != api.OK || data != "a") || !goes && (e != api.ErrNone || data != "") {
				t.Errorf("behind %d rounds of %d: %q, %v", rounds, round, data, err)
			}
		}
	}
}
