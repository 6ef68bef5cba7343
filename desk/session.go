package desk

import (
	"strconv"
	"strings"

	"metronome/agree"
	"metronome/api"
	"metronome/cluster"
	"metronome/plan"
	"metronome/ticks"
)

// session is what there is between two lines.
type session struct {
	plan    api.Plan
	cluster *cluster.Cluster // nil: it is not started
	next    cluster.Round    // what is to happen in its next round
}

// newSession is one as it is at first.
func newSession() *session {
	return &session{plan: api.Plan{Frame: 1}}
}

// kinds is what each first word says of a line, and what such a line does to this session.
func (s *session) kinds() map[string]kind {
	return map[string]kind{
		"plan":     {numbers: 6, when: ahead, does: s.setPlan},
		"slot":     {numbers: 3, when: ahead, does: s.addSlot},
		"link":     {numbers: 4, when: ahead, does: s.addLink},
		"bytes":    {does: s.bytes},
		"start":    {numbers: 1, more: true, when: ahead, does: s.start},
		"put":      {numbers: 1, text: true, when: behind, does: s.put},
		"receive":  {numbers: 2, when: behind, does: s.receive},
		"lose":     {numbers: 3, when: behind, does: s.lose},
		"read":     {numbers: 3, when: behind, does: s.read},
		"drift":    {numbers: 1, more: true, when: behind, does: s.drift},
		"mode":     {numbers: 1, more: true, when: behind, does: s.mode},
		"round":    {when: behind, does: s.round},
		"clocks":   {when: behind, does: s.clocks},
		"spread":   {when: behind, does: s.spread},
		"members":  {numbers: 1, when: behind, does: s.members},
		"midpoint": {numbers: 1, more: true, does: s.midpoint},
		"local":    {numbers: 5, does: s.local},
		"real":     {numbers: 5, does: s.real},
		"clear":    {does: s.clear},
		"help":     {does: s.help},
	}
}

// allows says whether a line may be told now.
func (s *session) allows(when int) bool {
	started := s.cluster != nil
	return when == always || started == (when == behind)
}

// setPlan leaves the slots and the links as they are: they have lines of their own.
func (s *session) setPlan(w words) string {
	p, n := &s.plan, w.numbers
	p.Nodes, p.Faulty, p.Skew, p.Jitter, p.Drift, p.Round = n[0], n[1], n[2], n[3], n[4], n[5]
	return "plan"
}

// addTo adds one more to a list of at most so many, and tells its number. Whether it may be is asked when the plan is whole.
func addTo[T any](list *[]T, most int, one T) string {
	many := len(*list)
	ask(many < most, api.ErrLimit)
	*list = append(*list, one)
	return strconv.Itoa(many)
}

func (s *session) addSlot(w words) string {
	n := w.numbers
	return addTo(&s.plan.Slots, api.MaxSlots, api.Slot{Node: n[0], Span: api.Span{From: n[1], To: n[2]}})
}

func (s *session) addLink(w words) string {
	n := w.numbers
	return addTo(&s.plan.Links, api.MaxLinks, api.Link{From: n[0], To: n[1], Bag: n[2], Queue: n[3]})
}

func (s *session) bytes(words) string {
	return strconv.Itoa(len(right(plan.Encode(s.plan))))
}

func (s *session) start(w words) string {
	s.cluster = right(cluster.New(s.plan, w.numbers[0], w.numbers[1:]))
	return "start"
}

func (s *session) put(w words) string {
	askNone(s.cluster.Put(w.numbers[0], w.text))
	return "put"
}

func (s *session) receive(w words) string {
	return "is " + right(s.cluster.Receive(w.numbers[0], w.numbers[1]))
}

func (s *session) lose(w words) string {
	n := w.numbers
	s.next.Losses = append(s.next.Losses, cluster.Loss{Slot: n[0], Channel: n[1], To: n[2]})
	return "lose"
}

func (s *session) read(w words) string {
	n := w.numbers
	s.next.Readings = append(s.next.Readings, cluster.Reading{Node: n[0], Of: n[1], Is: n[2]})
	return "read"
}

// drift tells of all nodes at once: what an earlier line told is gone.
func (s *session) drift(w words) string {
	s.next.Drifts = w.numbers
	return "drift"
}

// mode does so, too.
func (s *session) mode(w words) string {
	s.next.Modes = w.numbers
	return "mode"
}

// round forgets what was to happen only once it did: a round with an error did not go by.
func (s *session) round(words) string {
	askNone(s.cluster.Play(s.next))
	s.next = cluster.Round{}
	return strconv.Itoa(s.cluster.Rounds())
}

func (s *session) clocks(words) string {
	var l []string
	for _, clock := range s.cluster.Clocks() {
		l = append(l, strconv.Itoa(clock))
	}
	return strings.Join(l, " ")
}

func (s *session) spread(words) string {
	return strconv.Itoa(s.cluster.Spread())
}

func (s *session) members(w words) string {
	members, frozen, err := s.cluster.Members(w.numbers[0])
	askNone(err)
	told := strconv.Itoa(members)
	if frozen {
		told += " frozen"
	}
	return told
}

func (s *session) midpoint(w words) string {
	return strconv.Itoa(right(agree.Midpoint(w.numbers[1:], w.numbers[0])))
}

// clockOf is the clock that a line begins with, and the time behind it.
func clockOf(w words) (ticks.Clock, int) {
	n := w.numbers
	return ticks.Clock{From: n[0], Show: n[1], Num: n[2], Den: n[3]}, n[4]
}

func (s *session) local(w words) string {
	c, time := clockOf(w)
	return strconv.Itoa(right(c.Local(time)))
}

func (s *session) real(w words) string {
	c, time := clockOf(w)
	return strconv.Itoa(right(c.Real(time)))
}

func (s *session) clear(words) string {
	*s = *newSession()
	return "clear"
}

func (s *session) help(words) string {
	return "bytes clear clocks drift help link local lose members midpoint mode plan put read real receive round slot spread start"
}
