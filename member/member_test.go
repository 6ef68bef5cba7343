package member_test

import (
	"fmt"
	"math"
	"slices"
	"testing"

	"metronome/api"
	"metronome/member"
	"metronome/plain"
)

const (
	most     = api.MaxNodes
	least    = math.MinInt
	greatest = math.MaxInt
)

// extremes are numbers that are no node's, nothing that is heard, and no members: as far off as an int goes, and where a shift by them would wrap round to a bit.
var extremes = []int{least, least + 1, least / 2, -1 << 32, -65, -64, -2, -1, 62, 63, 64, 65, 128, 1 << 32, 1<<32 + 1, greatest / 2, greatest - 1, greatest}

// whats are all that may be heard.
var whats = []int{member.Silent, member.Good, member.Bad}

// die gives numbers that look drawn, the same each time.
type die uint64

func (d *die) n(most int) int {
	*d = *d*6364136223846793005 + 1442695040888963407
	return int(uint64(*d>>20) % uint64(most))
}

// any is one of some numbers.
func (d *die) any(l []int) int {
	return l[d.n(len(l))]
}

// state is all that a node shows.
type state struct {
	members   int
	frozen    bool
	good, bad int
}

// of is what a node shows.
func of(n *member.Node) state {
	good, bad := n.Counts()
	return state{n.Members(), n.Frozen(), good, bad}
}

// everyone is the members that so many nodes are.
func everyone(nodes int) int {
	return 1<<nodes - 1
}

// made is a node that must be there.
func made(t *testing.T, id, nodes int) *member.Node {
	t.Helper()
	n, err := member.New(id, nodes)
	if err != nil || n == nil {
		t.Fatalf("New(%d, %d): %v, %v", id, nodes, n, err)
	}
	return n
}

// cold is a node of two at least that froze itself: it heard one bad slot, that of another one.
func cold(t *testing.T, id, nodes int) *member.Node {
	t.Helper()
	n := made(t, id, nodes)
	other := (id + 1) % nodes
	n.Hears(other, member.Bad)
	if m, ok := n.Sends(); m != 0 || ok {
		t.Fatalf("Sends of node %d of %d that counts one good, one bad: %d, %t", id, nodes, m, ok)
	}
	shows(t, "frozen", n, state{everyone(nodes) &^ (1 << other), true, 1, 1})
	return n
}

// shows checks what a node shows.
func shows(t *testing.T, what string, n *member.Node, want state) {
	t.Helper()
	if got := of(n); got != want {
		t.Errorf("%s: %+v, want %+v", what, got, want)
	}
}

// sends checks Sends; -1 is that it does not send.
func sends(t *testing.T, what string, n *member.Node, want int) {
	t.Helper()
	got, ok := n.Sends()
	if ok != (want != -1) || got != max(want, 0) {
		t.Errorf("%s: Sends: %d, %t, want %d", what, got, ok, want)
	}
}

// back checks Back: an error is of no place, and changes nothing.
func back(t *testing.T, n *member.Node, members int, no api.Errno) {
	t.Helper()
	before := of(n)
	e, place := plain.Place(n.Back(members))
	if e != no || place != -1 {
		t.Errorf("Back(%d) of %+v: error %d at %d, want %d", members, before, e, place, no)
	}
	if no != api.OK {
		shows(t, fmt.Sprintf("behind Back(%d)", members), n, before)
	}
}

// judges checks Judges, and that it changes nothing.
func judges(t *testing.T, n *member.Node, from, members, want int) {
	t.Helper()
	before := of(n)
	if got := n.Judges(from, members); got != want {
		t.Errorf("%+v: Judges(%d, %d): %d, want %d", before, from, members, got, want)
	}
	shows(t, fmt.Sprintf("behind Judges(%d, %d)", from, members), n, before)
}

// like is a node by another hand: whom it takes is told one by one, not by bits.
type like struct {
	id        int
	in        []bool
	frozen    bool
	good, bad int
}

func newLike(id, nodes int) *like {
	l := &like{id: id, in: make([]bool, nodes), good: 1}
	for k := range l.in {
		l.in[k] = true
	}
	return l
}

func (l *like) there(node int) bool {
	return node >= 0 && node < len(l.in)
}

// has says whether members have a node's bit, of all 64.
func has(members, node int) bool {
	return uint64(members)>>node&1 == 1
}

func (l *like) members() (sum int) {
	for k, in := range l.in {
		if in {
			sum += 1 << k
		}
	}
	return sum
}

func (l *like) state() state {
	return state{l.members(), l.frozen, l.good, l.bad}
}

func (l *like) hears(from, what int) {
	if l.frozen || !l.there(from) || from == l.id || !slices.Contains(whats, what) {
		return
	}
	l.in[from] = what == member.Good
	if what == member.Good {
		l.good++
	}
	if what == member.Bad {
		l.bad++
	}
}

func (l *like) judges(from, members int) int {
	if !l.there(from) || !has(members, from) {
		return member.Bad
	}
	for k := range 64 {
		if k != from && has(members, k) != (l.there(k) && l.in[k]) {
			return member.Bad
		}
	}
	return member.Good
}

func (l *like) sends() (int, bool) {
	l.frozen = l.frozen || l.good <= l.bad
	if l.frozen {
		return 0, false
	}
	l.good, l.bad = 1, 0
	return l.members(), true
}

func (l *like) back(members int) api.Errno {
	if !l.frozen {
		return api.ErrState
	}
	for k := range 64 {
		if has(members, k) && !l.there(k) {
			return api.ErrArg
		}
	}
	for k := range l.in {
		l.in[k] = k == l.id || has(members, k)
	}
	l.frozen, l.good, l.bad = false, 1, 0
	return api.OK
}

// 6.1: what is heard

func TestWhatIsHeard(t *testing.T) {
	if member.Silent != 0 || member.Good != 1 || member.Bad != 2 {
		t.Errorf("Silent, Good, Bad are %d, %d, %d, want 0, 1, 2", member.Silent, member.Good, member.Bad)
	}
}

// 6.1: New, Members, Frozen, Counts

func TestNew(t *testing.T) {
	for nodes := 1; nodes <= most; nodes++ {
		for id := range nodes {
			shows(t, fmt.Sprintf("New(%d, %d)", id, nodes), made(t, id, nodes), state{everyone(nodes), false, 1, 0})
		}
	}
	shows(t, "the first of one", made(t, 0, 1), state{1, false, 1, 0})
	shows(t, "the last of MaxNodes", made(t, 15, 16), state{65535, false, 1, 0})
}

func TestNewOfWrong(t *testing.T) {
	numbers := append([]int{0, 1, 2, 3, 14, 15, 16, 17, 18}, extremes...)
	for _, nodes := range numbers {
		for _, id := range append([]int{nodes - 1, nodes, nodes + 1, -nodes}, numbers...) {
			if 1 <= nodes && nodes <= most && 0 <= id && id < nodes {
				made(t, id, nodes)
				continue
			}
			n, err := member.New(id, nodes)
			if e, place := plain.Place(err); n != nil || e != api.ErrArg || place != -1 {
				t.Errorf("New(%d, %d): %v, error %d at %d, want error %d", id, nodes, n, e, place, api.ErrArg)
			}
		}
	}
}

// TestNodesAreApart: what one node is told is nothing to another one, though it is made alike.
func TestNodesAreApart(t *testing.T) {
	a, b := made(t, 0, 3), made(t, 0, 3)
	a.Hears(1, member.Bad)
	a.Hears(2, member.Silent)
	a.Sends()
	shows(t, "who heard", a, state{1, true, 1, 1})
	shows(t, "who did not", b, state{7, false, 1, 0})
	shows(t, "one that is made later", made(t, 0, 3), state{7, false, 1, 0})
}

// 6.1: Hears

func TestHears(t *testing.T) {
	n := made(t, 0, 3)
	n.Hears(2, member.Silent)
	shows(t, "nothing of node 2", n, state{3, false, 1, 0})
	n.Hears(2, member.Silent)
	shows(t, "nothing of it once more", n, state{3, false, 1, 0})
	n.Hears(1, member.Good)
	shows(t, "a member that is good", n, state{3, false, 2, 0})
	n.Hears(2, member.Good)
	shows(t, "one who was not heard is heard again", n, state{7, false, 3, 0})
	n.Hears(1, member.Bad)
	shows(t, "a member that is bad", n, state{5, false, 3, 1})
	n.Hears(1, member.Bad)
	shows(t, "one that is no member is bad", n, state{5, false, 3, 2})
	n.Hears(1, member.Silent)
	shows(t, "one that is no member is silent", n, state{5, false, 3, 2})
	n.Hears(1, member.Good)
	shows(t, "one who was bad is good again", n, state{7, false, 4, 2})
}

// TestHearsOfEach: of each other node, of so many, each of the three, whether it is a member or not.
func TestHearsOfEach(t *testing.T) {
	for nodes := 1; nodes <= most; nodes++ {
		for id := range nodes {
			for from := range nodes {
				if from == id {
					continue
				}
				n, all := made(t, id, nodes), everyone(nodes)
				for i, x := range []struct{ what, members, good, bad int }{
					{member.Good, all, 2, 0},
					{member.Bad, all &^ (1 << from), 2, 1},
					{member.Bad, all &^ (1 << from), 2, 2},
					{member.Silent, all &^ (1 << from), 2, 2},
					{member.Good, all, 3, 2},
					{member.Silent, all &^ (1 << from), 3, 2},
				} {
					n.Hears(from, x.what)
					shows(t, fmt.Sprintf("node %d of %d that hears %d, step %d", id, nodes, from, i), n, state{x.members, false, x.good, x.bad})
				}
			}
		}
	}
}

// TestHearsNothing: of who is none, of itself, and of what is none of the three.
func TestHearsNothing(t *testing.T) {
	for nodes := 1; nodes <= most; nodes++ {
		for _, id := range []int{0, nodes / 2, nodes - 1} {
			n := made(t, id, nodes)
			if other := (id + 1) % nodes; other != id {
				n.Hears(other, member.Bad)
			}
			before := of(n)
			nobody := append([]int{-1, id, nodes, nodes + 1, nodes + 64}, extremes...)
			for _, from := range nobody {
				for _, what := range append([]int{-1, 3}, whats...) {
					n.Hears(from, what)
					shows(t, fmt.Sprintf("node %d of %d behind Hears(%d, %d)", id, nodes, from, what), n, before)
				}
			}
			for from := range nodes {
				for _, what := range append([]int{member.Silent - 1, member.Bad + 1, 4, 5}, extremes...) {
					n.Hears(from, what)
					shows(t, fmt.Sprintf("node %d of %d behind Hears(%d, %d)", id, nodes, from, what), n, before)
				}
			}
		}
	}
}

func TestHearsFrozen(t *testing.T) {
	for nodes := 2; nodes <= most; nodes++ {
		for id := range nodes {
			n := cold(t, id, nodes)
			before := of(n)
			for from := -1; from <= nodes; from++ {
				for _, what := range append([]int{-1, 3}, whats...) {
					n.Hears(from, what)
					shows(t, fmt.Sprintf("frozen node %d of %d behind Hears(%d, %d)", id, nodes, from, what), n, before)
				}
			}
		}
	}
}

// 6.1: Judges

func TestJudges(t *testing.T) {
	n := made(t, 0, 4)
	n.Hears(3, member.Silent) // its members: 0, 1, 2
	for _, c := range []struct {
		what          string
		from, members int
		want          int
	}{
		{"from in both", 1, 0b0111, member.Good},
		{"from in its own, not in the told ones", 1, 0b0101, member.Bad},
		{"from in the told ones, not in its own", 3, 0b1111, member.Good},
		{"from in neither", 3, 0b0111, member.Bad},
		{"one more told", 1, 0b1111, member.Bad},
		{"one fewer told", 1, 0b0011, member.Bad},
		{"another one told", 1, 0b1011, member.Bad},
		{"not itself told", 1, 0b0110, member.Bad},
		{"from in the told ones, not in its own, one fewer told", 3, 0b1011, member.Bad},
		{"from in the told ones, not in its own, not itself told", 3, 0b1110, member.Bad},
		{"none told", 1, 0, member.Bad},
		{"from alone told", 1, 0b0010, member.Bad},
		{"itself as from", 0, 0b0111, member.Good},
		{"itself as from, not told", 0, 0b0110, member.Bad},
		{"itself as from, one more told", 0, 0b1111, member.Bad},
		{"a bit that is no node's", 1, 0b10111, member.Bad},
		{"the greatest bit beside", 1, 0b0111 | least, member.Bad},
		{"below 0", 1, -1, member.Bad},
		{"from is -1", -1, 0b0111, member.Bad},
		{"from is one more than the last one", 4, 0b0111, member.Bad},
		{"from is one more than the last one, and is told", 4, 0b10111, member.Bad},
	} {
		t.Run(c.what, func(t *testing.T) {
			judges(t, n, c.from, c.members, c.want)
		})
	}
}

// TestJudgesAll goes through all members that four nodes may have, and be told, and a bit more.
func TestJudgesAll(t *testing.T) {
	for id := range 4 {
		for own := range 16 {
			n, l := cold(t, id, 4), newLike(id, 4)
			back(t, n, own, api.OK)
			l.frozen = true
			l.back(own)
			for from := -1; from <= 5; from++ {
				for told := -32; told < 64; told++ {
					judges(t, n, from, told, l.judges(from, told))
				}
			}
		}
	}
}

func TestJudgesFrozen(t *testing.T) {
	for nodes := 2; nodes <= most; nodes++ {
		n := cold(t, 0, nodes) // it takes all but node 1
		all := everyone(nodes)
		judges(t, n, 1, all, member.Good)
		judges(t, n, 1, all&^2, member.Bad)
		judges(t, n, 0, all&^2, member.Good)
		judges(t, n, 0, all, member.Bad)
		judges(t, n, nodes-1, all&^2|1<<(nodes-1), member.Good)
	}
}

func TestJudgesOfWrong(t *testing.T) {
	for nodes := 1; nodes <= most; nodes++ {
		n, all := made(t, nodes-1, nodes), everyone(nodes)
		for _, from := range append([]int{-1, nodes, nodes + 64}, extremes...) {
			for _, told := range append([]int{0, 1, all, all >> 1, 1 << nodes}, extremes...) {
				judges(t, n, from, told, member.Bad)
			}
		}
		for from := range nodes {
			judges(t, n, from, all, member.Good)
			for k := nodes; k < 64; k++ { // one bit that is no node's
				judges(t, n, from, all|1<<k, member.Bad)
			}
			for _, told := range extremes {
				if told != all {
					judges(t, n, from, told, member.Bad)
				}
			}
		}
	}
}

// 6.1: Sends

func TestSends(t *testing.T) {
	n := made(t, 1, 3)
	sends(t, "that heard nothing yet", n, 7)
	shows(t, "behind it", n, state{7, false, 1, 0})
	n.Hears(0, member.Good)
	n.Hears(2, member.Silent)
	sends(t, "that heard one good", n, 3)
	shows(t, "behind it, counted anew", n, state{3, false, 1, 0})
	sends(t, "that heard nothing since", n, 3)
	n.Hears(0, member.Silent)
	sends(t, "that is alone", n, 2)
	n.Hears(0, member.Bad)
	sends(t, "with as many bad as good", n, -1)
	shows(t, "frozen", n, state{2, true, 1, 1})
	sends(t, "that is frozen", n, -1)
	shows(t, "frozen, as it was", n, state{2, true, 1, 1})
}

// TestSendsAtEdges: bad slots one fewer than good ones, as many, one more, and far from that.
func TestSendsAtEdges(t *testing.T) {
	for good := 1; good <= 12; good++ {
		for bad := 0; bad <= 15; bad++ {
			for _, badFirst := range []bool{false, true} {
				n := made(t, 2, 5)
				hear := []func(){
					func() {
						for range good - 1 {
							n.Hears(0, member.Good)
						}
					},
					func() {
						for range bad {
							n.Hears(4, member.Bad)
						}
					},
				}
				if badFirst {
					slices.Reverse(hear)
				}
				hear[0]()
				hear[1]()
				members := 31
				if bad > 0 {
					members = 15
				}
				what := fmt.Sprintf("%d good, %d bad", good, bad)
				shows(t, what, n, state{members, false, good, bad})
				if bad >= good {
					sends(t, what, n, -1)
					shows(t, what+": behind Sends", n, state{members, true, good, bad})
					continue
				}
				sends(t, what, n, members)
				shows(t, what+": behind Sends", n, state{members, false, 1, 0})
			}
		}
	}
}

// TestSendsCountsSinceTheLast: what was heard ahead of the last slot of its own does not weigh any more.
func TestSendsCountsSinceTheLast(t *testing.T) {
	n := made(t, 0, 4)
	for range 100 {
		n.Hears(1, member.Good)
	}
	sends(t, "100 good", n, 15)
	n.Hears(2, member.Bad)
	sends(t, "one bad since", n, -1)

	n = made(t, 0, 4)
	n.Hears(1, member.Good)
	for range 10 {
		n.Hears(2, member.Bad)
		sends(t, "one bad, two good", n, 11)
		n.Hears(1, member.Good)
	}
}

// TestSilentDoesNotWeigh: who hears nobody goes on sending.
func TestSilentDoesNotWeigh(t *testing.T) {
	for nodes := 1; nodes <= most; nodes++ {
		for id := range nodes {
			n := made(t, id, nodes)
			for range 3 {
				for from := range nodes {
					n.Hears(from, member.Silent)
				}
				sends(t, fmt.Sprintf("node %d of %d that hears nobody", id, nodes), n, 1<<id)
			}
		}
	}
}

// 6.1: Back

func TestBack(t *testing.T) {
	for nodes := 2; nodes <= most; nodes++ {
		for id := range nodes {
			own, all := 1<<id, everyone(nodes)
			for _, members := range []int{0, own, all, all &^ own, 1, all >> 1, 1 << (nodes - 1), all &^ 1} {
				n := cold(t, id, nodes)
				back(t, n, members, api.OK)
				what := fmt.Sprintf("node %d of %d behind Back(%d)", id, nodes, members)
				shows(t, what, n, state{members | own, false, 1, 0})
				back(t, n, members, api.ErrState)
				sends(t, what, n, members|own)
			}
		}
	}
}

// TestBackHears: one that came back hears, and may freeze itself again, and come back again.
func TestBackHears(t *testing.T) {
	n := cold(t, 0, 3)
	for range 3 {
		back(t, n, 0b010, api.OK)
		n.Hears(2, member.Good)
		shows(t, "back, with one good", n, state{0b111, false, 2, 0})
		n.Hears(1, member.Bad)
		sends(t, "back, with one bad", n, 0b101)
		n.Hears(2, member.Bad)
		sends(t, "back, with as many bad", n, -1)
		shows(t, "frozen again", n, state{0b001, true, 1, 1})
	}
}

// TestBackOfWrong: members with a bit that is no node's; who is not frozen is told that first.
func TestBackOfWrong(t *testing.T) {
	for nodes := 2; nodes <= most; nodes++ {
		warm, frozen := made(t, 1, nodes), cold(t, 1, nodes)
		wrong := []int{1 << nodes, 1<<nodes + 1, everyone(nodes + 1), -1, -everyone(nodes), -1 << nodes, least, least + 1, least / 2, greatest, greatest - 1, greatest / 2}
		for k := nodes; k < 64; k++ {
			wrong = append(wrong, 1<<k, 1<<k|2, 1<<k|everyone(nodes))
		}
		for _, members := range wrong {
			back(t, warm, members, api.ErrState)
			back(t, frozen, members, api.ErrArg)
		}
		for _, members := range []int{0, 1, 2, everyone(nodes)} {
			back(t, warm, members, api.ErrState)
		}
		shows(t, "never frozen", warm, state{everyone(nodes), false, 1, 0})
		back(t, frozen, everyone(nodes), api.OK)
	}
	one := made(t, 0, 1) // alone it never hears a bad slot
	for _, members := range []int{0, 1, 2, -1, least, greatest} {
		back(t, one, members, api.ErrState)
	}
}

// 6.1: all of them, one behind the other, against another hand

// step is one thing that is done with a node: Sends, Back of some members, Hears of from what number says, or Judges of from some members.
type step struct {
	does         string
	from, number int
}

// do does it with a node and with its like: both tell, and show, the same.
func (s step) do(t *testing.T, n *member.Node, l *like) {
	t.Helper()
	switch s.does {
	case "sends":
		got, ok := n.Sends()
		if want, wantOK := l.sends(); got != want || ok != wantOK {
			t.Errorf("Sends: %d, %t, want %d, %t", got, ok, want, wantOK)
		}
	case "back":
		e, place := plain.Place(n.Back(s.number))
		if want := l.back(s.number); e != want || place != -1 {
			t.Errorf("Back(%d): error %d at %d, want %d", s.number, e, place, want)
		}
	case "hears":
		n.Hears(s.from, s.number)
		l.hears(s.from, s.number)
	case "judges":
		if got, want := n.Judges(s.from, s.number), l.judges(s.from, s.number); got != want {
			t.Errorf("Judges(%d, %d): %d, want %d", s.from, s.number, got, want)
		}
	}
	if got, want := of(n), l.state(); got != want {
		t.Errorf("behind %+v: %+v, want %+v", s, got, want)
	}
}

// TestAllShortWays goes through all ways of five steps of a node of three, with Back of no members and of all.
func TestAllShortWays(t *testing.T) {
	for id := range 3 {
		steps := []step{{does: "sends"}, {does: "back"}, {does: "back", number: 7}}
		for _, what := range whats {
			steps = append(steps, step{"hears", (id + 1) % 3, what}, step{"hears", (id + 2) % 3, what})
		}
		const long = 5
		ways := 1
		for range long {
			ways *= len(steps)
		}
		for way := range ways {
			n, l := made(t, id, 3), newLike(id, 3)
			for k, rest := 0, way; k < long; k, rest = k+1, rest/len(steps) {
				steps[rest%len(steps)].do(t, n, l)
			}
			if t.Failed() {
				t.Fatalf("node %d, way %d", id, way)
			}
		}
	}
}

// step is one that is drawn: of a node of so many, with wrong numbers now and then.
func (d *die) step(nodes, own int) step {
	from := d.n(nodes+2) - 1
	if d.n(20) == 0 {
		from = d.any(extremes)
	}
	switch d.n(8) {
	case 0:
		return step{does: "sends"}
	case 1:
		return step{does: "back", number: d.members(nodes, own)}
	case 2, 3:
		return step{"judges", from, d.members(nodes, own)}
	}
	what := d.n(5) - 1
	if d.n(20) == 0 {
		what = d.any(extremes)
	}
	return step{"hears", from, what}
}

// members are some that are drawn: often a node's own, or near them.
func (d *die) members(nodes, own int) int {
	switch d.n(8) {
	case 0:
		return d.any(extremes)
	case 1:
		return d.n(everyone(nodes + 1))
	case 2:
		return own ^ 1<<d.n(64)
	case 3, 4:
		return own ^ 1<<d.n(nodes)
	case 5:
		return own
	}
	return d.n(everyone(nodes) + 1)
}

func TestDrawnWays(t *testing.T) {
	d := die(7)
	for nodes := 1; nodes <= most; nodes++ {
		for id := range nodes {
			for range 20 {
				n, l := made(t, id, nodes), newLike(id, nodes)
				var way []step
				for range 60 {
					way = append(way, d.step(nodes, n.Members()))
					way[len(way)-1].do(t, n, l)
					if t.Failed() {
						t.Fatalf("node %d of %d: %v", id, nodes, way)
					}
				}
			}
		}
	}
}
