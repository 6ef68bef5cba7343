package vlink_test

import (
	"fmt"
	"math"
	"strconv"
	"strings"
	"testing"

	"metronome/api"
	"metronome/plain"
	"metronome/vlink"
)

const (
	least    = math.MinInt
	greatest = math.MaxInt
	latest   = api.MaxTime
)

// belowAll and aboveAll are numbers beyond all bounds: as far off as an int goes, and where a sum, or a cut to fewer bits, would wrap round to one within.
var (
	belowAll = []int{least, least + 1, least + 255, least / 2, -1 << 41, -1<<40 - 1, -1 << 40, -1<<32 + 1, -1 << 32, -257, -256, -255, -1}
	aboveAll = []int{1<<40 + 1, 1 << 41, 1<<41 + 1, 1 << 62, greatest / 2, greatest - 255, greatest - 1, greatest}
)

// long is a text of so many bytes.
func long(bytes int) string {
	return strings.Repeat("x", bytes)
}

// die gives numbers that look drawn, the same each time.
type die uint64

func (d *die) n(most int) int {
	*d = *d*6364136223846793005 + 1442695040888963407
	return int(uint64(*d>>20) % uint64(most))
}

// no checks an error: it is of no place.
func no(t *testing.T, what string, err error, want api.Errno) {
	t.Helper()
	if e, place := plain.Place(err); e != want || place != -1 {
		t.Errorf("%s: error %d at %d, want %d", what, e, place, want)
	}
}

// made is a sender that must be there.
func made(t *testing.T, bag, queue int) *vlink.Sender {
	t.Helper()
	s, err := vlink.NewSender(api.Link{Bag: bag, Queue: queue})
	if err != nil || s == nil {
		t.Fatalf("NewSender of Bag %d, Queue %d: %v, %v", bag, queue, s, err)
	}
	if s.Many() != 0 {
		t.Errorf("of one that is made %d wait", s.Many())
	}
	return s
}

// put checks Put, and how many wait behind it.
func put(t *testing.T, s *vlink.Sender, data string, want api.Errno) {
	t.Helper()
	many := s.Many()
	no(t, fmt.Sprintf("Put(%q)", data), s.Put(data), want)
	if want == api.OK {
		many++
	}
	if s.Many() != many {
		t.Errorf("behind Put(%q): %d wait, want %d", data, s.Many(), many)
	}
}

// goes checks a Send that lets a message go.
func goes(t *testing.T, s *vlink.Sender, now, seq int, data string) {
	t.Helper()
	many := s.Many()
	x, err := s.Send(now)
	no(t, fmt.Sprintf("Send(%d)", now), err, api.OK)
	if want := (vlink.Item{Seq: seq, Data: data}); x != want {
		t.Errorf("Send(%d): %v, want %v", now, x, want)
	}
	if s.Many() != many-1 {
		t.Errorf("behind Send(%d): %d wait, want %d", now, s.Many(), many-1)
	}
}

// stays checks a Send that is wrong: nothing goes, and as many wait.
func stays(t *testing.T, s *vlink.Sender, now int, want api.Errno) {
	t.Helper()
	many := s.Many()
	x, err := s.Send(now)
	no(t, fmt.Sprintf("Send(%d)", now), err, want)
	if x != (vlink.Item{}) {
		t.Errorf("Send(%d): %v beside an error", now, x)
	}
	if s.Many() != many {
		t.Errorf("behind Send(%d): %d wait, want %d", now, s.Many(), many)
	}
}

// number is what the message has that goes behind so many others, told by going through the order.
func number(others int) int {
	seq := 0
	for range others {
		if seq == 255 {
			seq = 0
		}
		seq++
	}
	return seq
}

// 7.1: NewSender

func TestNewSender(t *testing.T) {
	for _, bag := range []int{1, 2, 1000, latest - 1, latest} {
		for queue := 1; queue <= api.MaxQueue; queue++ {
			made(t, bag, queue)
		}
	}
}

func TestNewSenderOfWrong(t *testing.T) {
	bags := append(append([]int{0, 1, latest, latest + 1}, belowAll...), aboveAll...)
	queues := append(append([]int{0, 1, api.MaxQueue, api.MaxQueue + 1, 255, 256, 1<<32 + 1, latest}, belowAll...), aboveAll...)
	for _, bag := range bags {
		for _, queue := range queues {
			if 1 <= bag && bag <= latest && 1 <= queue && queue <= api.MaxQueue {
				made(t, bag, queue)
				continue
			}
			s, err := vlink.NewSender(api.Link{Bag: bag, Queue: queue})
			no(t, fmt.Sprintf("NewSender of Bag %d, Queue %d", bag, queue), err, api.ErrRange)
			if s != nil {
				t.Errorf("NewSender of Bag %d, Queue %d: a sender beside an error", bag, queue)
			}
		}
	}
}

// TestNewSenderOfAnyNodes: who sends, and to whom, is nothing to a sender; and a link is as it was.
func TestNewSenderOfAnyNodes(t *testing.T) {
	ends := append(append([]int{0, 1, 16}, belowAll...), aboveAll...)
	for _, from := range ends {
		for _, to := range ends {
			l := api.Link{From: from, To: to, Bag: 5, Queue: 1}
			s, err := vlink.NewSender(l)
			no(t, fmt.Sprintf("NewSender of %+v", l), err, api.OK)
			if l != (api.Link{From: from, To: to, Bag: 5, Queue: 1}) {
				t.Errorf("NewSender wrote into its link: %+v", l)
			}
			l.Bag, l.Queue = 1, 16 // that is not the sender's any more
			put(t, s, "a", api.OK)
			put(t, s, "b", api.ErrFull)
			goes(t, s, 0, 0, "a")
			put(t, s, "c", api.OK)
			stays(t, s, 4, api.ErrNone)
			goes(t, s, 5, 1, "c")
		}
	}
}

// TestSendersAreApart: what one sender is told is nothing to another one, though it is made alike.
func TestSendersAreApart(t *testing.T) {
	a, b := made(t, 10, 2), made(t, 10, 2)
	put(t, a, "a", api.OK)
	put(t, a, "b", api.OK)
	goes(t, a, 100, 0, "a")
	stays(t, b, 0, api.ErrNone)
	put(t, b, "c", api.OK)
	goes(t, b, 1, 0, "c")
	goes(t, a, 110, 1, "b")
	put(t, made(t, 10, 2), "d", api.OK)
	stays(t, a, 120, api.ErrNone)
}

// 7.1: Put, Many

func TestPutOfAllLengths(t *testing.T) {
	for bytes := range 2*api.MaxData + 2 {
		s := made(t, 1, 1)
		if bytes > api.MaxData {
			put(t, s, long(bytes), api.ErrLimit)
			stays(t, s, 0, api.ErrNone)
			continue
		}
		put(t, s, long(bytes), api.OK)
		goes(t, s, 0, 0, long(bytes))
	}
	s := made(t, 1, 1)
	for _, bytes := range []int{255, 256, 256 + 1, 1 << 16, 1<<16 + 1, 1 << 20} {
		put(t, s, long(bytes), api.ErrLimit)
	}
	put(t, s, "a", api.OK)
}

// TestPutCountsBytes: a text is its bytes, whatever they are.
func TestPutCountsBytes(t *testing.T) {
	s := made(t, 1, 16)
	texts := []string{strings.Repeat("é", 20), strings.Repeat("\xff", 40), strings.Repeat("\x00", 40), "\n a\t", "", strings.Repeat("é", 19) + "\xc3x"}
	for _, data := range texts {
		put(t, s, data, api.OK)
	}
	put(t, s, strings.Repeat("é", 20)+"x", api.ErrLimit)
	put(t, s, strings.Repeat("é", 21), api.ErrLimit)
	put(t, s, strings.Repeat("\xff", 41), api.ErrLimit)
	put(t, s, strings.Repeat("\x00", 41), api.ErrLimit)
	for k, data := range texts {
		goes(t, s, k, k, data)
	}
}

// TestPutUntilFull: of each Queue so many wait, and no more, now and when one went.
func TestPutUntilFull(t *testing.T) {
	for queue := 1; queue <= api.MaxQueue; queue++ {
		s := made(t, 1, queue)
		for k := range queue {
			if s.Many() != k {
				t.Errorf("%d of %d wait, want %d", s.Many(), queue, k)
			}
			put(t, s, strconv.Itoa(k), api.OK)
		}
		put(t, s, "more", api.ErrFull)
		put(t, s, "", api.ErrFull)
		put(t, s, long(api.MaxData), api.ErrFull)
		for k := range 3 * queue {
			goes(t, s, k, k, strconv.Itoa(k))
			put(t, s, strconv.Itoa(queue+k), api.OK)
			put(t, s, "more", api.ErrFull)
		}
		for k := 3 * queue; k < 4*queue; k++ {
			goes(t, s, k, k, strconv.Itoa(k))
		}
		stays(t, s, 4*queue, api.ErrNone)
	}
}

// TestPutOfBothWrong: that it is too long is told first.
func TestPutOfBothWrong(t *testing.T) {
	s := made(t, 1, 1)
	put(t, s, long(api.MaxData+1), api.ErrLimit)
	put(t, s, "a", api.OK)
	put(t, s, long(api.MaxData+1), api.ErrLimit)
	put(t, s, long(api.MaxData), api.ErrFull)
	goes(t, s, 0, 0, "a")
	stays(t, s, 1, api.ErrNone)
}

// TestWhatWaitsIsItsOwn: the bytes that a text was made of may be written anew.
func TestWhatWaitsIsItsOwn(t *testing.T) {
	s := made(t, 1, 2)
	b := []byte("abc")
	put(t, s, string(b), api.OK)
	copy(b, "xyz")
	put(t, s, string(b), api.OK)
	copy(b, "---")
	goes(t, s, 0, 0, "abc")
	goes(t, s, 1, 1, "xyz")
}

// 7.1: Send

func TestSend(t *testing.T) {
	s := made(t, 10, 3)
	stays(t, s, 0, api.ErrNone)
	put(t, s, "a", api.OK)
	put(t, s, "b", api.OK)
	goes(t, s, 5, 0, "a") // the very first one has none ahead of it, whatever Bag is
	stays(t, s, 5, api.ErrNone)
	put(t, s, "c", api.OK)
	stays(t, s, 14, api.ErrNone)
	goes(t, s, 15, 1, "b")
	stays(t, s, 24, api.ErrNone)
	goes(t, s, 40, 2, "c")
	stays(t, s, 60, api.ErrNone)
	put(t, s, "d", api.OK)
	goes(t, s, 60, 3, "d")
}

// TestSendKeepsDistance: Bag less one behind the last one that went none goes, Bag behind it the next one does; how long it waited, and that none went meanwhile, is nothing to it.
func TestSendKeepsDistance(t *testing.T) {
	for _, bag := range []int{1, 2, 3, 10, 1 << 20, 1 << 32, latest/2 - 1, latest / 2, latest/2 + 1, latest - 1, latest} {
		for _, first := range []int{0, 1, 7, latest - bag - 1, latest - bag, latest - bag + 1, latest - 1, latest} {
			if first < 0 || first > latest {
				continue
			}
			s := made(t, bag, 4)
			for _, data := range []string{"a", "b", "c"} {
				put(t, s, data, api.OK)
			}
			goes(t, s, first, 0, "a")
			keeps(t, s, bag, first)
		}
	}
}

// keeps checks the distance behind a first one that went, of three.
func keeps(t *testing.T, s *vlink.Sender, bag, first int) {
	t.Helper()
	stays(t, s, first, api.ErrNone)
	for _, behind := range []int{bag / 2, bag - 1} {
		if first+behind <= latest {
			stays(t, s, first+behind, api.ErrNone)
		}
	}
	for k, data := range []string{"b", "c"} {
		at := first + (k+1)*bag
		if at > latest {
			stays(t, s, latest, api.ErrNone)
			stays(t, s, at, api.ErrRange)
			return
		}
		if k > 0 && bag > 1 {
			stays(t, s, at-1, api.ErrNone)
		}
		goes(t, s, at, k+1, data)
	}
}

// TestSendDistanceIsOfLast: the distance is from when the last one went, not from when it might have gone, nor from the first one.
func TestSendDistanceIsOfLast(t *testing.T) {
	s := made(t, 10, 4)
	for _, data := range []string{"a", "b", "c", "d"} {
		put(t, s, data, api.OK)
	}
	goes(t, s, 3, 0, "a")
	goes(t, s, 19, 1, "b")
	stays(t, s, 23, api.ErrNone)
	stays(t, s, 28, api.ErrNone)
	goes(t, s, 29, 2, "c")
	stays(t, s, 33, api.ErrNone)
	stays(t, s, 38, api.ErrNone)
	goes(t, s, 1000, 3, "d")
}

func TestSendBounds(t *testing.T) {
	s := made(t, 1, 3)
	for _, data := range []string{"a", "b", "c"} {
		put(t, s, data, api.OK)
	}
	stays(t, s, -1, api.ErrRange)
	stays(t, s, latest+1, api.ErrRange)
	goes(t, s, 0, 0, "a")
	stays(t, s, -1, api.ErrRange)
	goes(t, s, latest-1, 1, "b")
	stays(t, s, latest+1, api.ErrRange)
	goes(t, s, latest, 2, "c")
	stays(t, s, latest, api.ErrNone)
	put(t, s, "d", api.OK)
	stays(t, s, latest, api.ErrNone)
	stays(t, s, latest+1, api.ErrRange)
	stays(t, s, latest-1, api.ErrOrder)
}

// TestSendOfWrong: numbers beyond the bounds change nothing, whatever went before.
func TestSendOfWrong(t *testing.T) {
	for _, bag := range []int{1, 10, latest} {
		for _, now := range append(append([]int{}, belowAll...), aboveAll...) {
			s := made(t, bag, 2)
			stays(t, s, now, api.ErrRange)
			put(t, s, "a", api.OK)
			put(t, s, "b", api.OK)
			stays(t, s, now, api.ErrRange)
			goes(t, s, 0, 0, "a")
			stays(t, s, now, api.ErrRange)
			if bag > 1 {
				stays(t, s, bag-1, api.ErrNone)
			}
			stays(t, s, now, api.ErrRange)
			goes(t, s, bag, 1, "b")
			stays(t, s, now, api.ErrRange)
		}
	}
}

// TestSendOrder: the now before it is no error, one below is; whether one went then, or none.
func TestSendOrder(t *testing.T) {
	for _, before := range []int{0, 1, 2, 50, latest - 1, latest} {
		for _, waits := range []bool{true, false} {
			s := made(t, 1, 2)
			if waits {
				put(t, s, "a", api.OK)
				goes(t, s, before, 0, "a")
			} else {
				stays(t, s, before, api.ErrNone)
			}
			stays(t, s, before, api.ErrNone)
			below := api.ErrOrder
			if before == 0 {
				below = api.ErrRange
			}
			stays(t, s, before-1, below)
			put(t, s, "b", api.OK)
			stays(t, s, before-1, below)
			stays(t, s, -1, api.ErrRange)
			stays(t, s, latest+1, api.ErrRange)
			if before > 0 {
				stays(t, s, 0, api.ErrOrder)
			}
			if !waits {
				goes(t, s, before, 0, "b")
			} else if before < latest {
				goes(t, s, before+1, 1, "b")
			}
		}
	}
}

// TestSendEarlierNow: a now that was answered ErrNone is an earlier one, because none waits, or because the last one went less than Bag ahead; one that was answered ErrRange or ErrOrder is not.
func TestSendEarlierNow(t *testing.T) {
	s := made(t, 100, 4)
	stays(t, s, 10, api.ErrNone)
	put(t, s, "a", api.OK)
	stays(t, s, 9, api.ErrOrder)
	goes(t, s, 10, 0, "a")
	put(t, s, "b", api.OK)
	stays(t, s, 50, api.ErrNone)
	stays(t, s, 49, api.ErrOrder)
	stays(t, s, 50, api.ErrNone)

	stays(t, s, latest+1, api.ErrRange)
	stays(t, s, 50, api.ErrNone)
	stays(t, s, greatest, api.ErrRange)
	stays(t, s, 51, api.ErrNone)
	stays(t, s, least, api.ErrRange)
	stays(t, s, 50, api.ErrOrder)
	stays(t, s, 20, api.ErrOrder)
	stays(t, s, 30, api.ErrOrder) // though 20 was the one ahead of it
	stays(t, s, 50, api.ErrOrder)
	stays(t, s, 51, api.ErrNone)
	goes(t, s, 110, 1, "b")
	stays(t, s, 109, api.ErrOrder)
}

// TestSendOfSeveralWrong: ErrRange is told ahead of ErrOrder, that ahead of ErrNone.
func TestSendOfSeveralWrong(t *testing.T) {
	for _, waits := range []bool{true, false} {
		s := made(t, 10, 2)
		put(t, s, "a", api.OK)
		goes(t, s, 5, 0, "a")
		if waits {
			put(t, s, "b", api.OK)
		}
		stays(t, s, -1, api.ErrRange) // below an earlier one, too; none goes, too
		stays(t, s, latest+1, api.ErrRange)
		stays(t, s, 4, api.ErrOrder) // none goes, too
		stays(t, s, 0, api.ErrOrder)
		stays(t, s, 5, api.ErrNone)
	}
}

// TestSendNumbers: 0 of the very first one, then 1 to 255, then 1 again, and never 0 again; a Send that is wrong, and a Put, takes none.
func TestSendNumbers(t *testing.T) {
	s := made(t, 3, 2)
	for k := range 4*255 + 10 {
		now, data := 3*k, strconv.Itoa(k)
		stays(t, s, now, api.ErrNone)
		put(t, s, data, api.OK)
		stays(t, s, latest+1, api.ErrRange)
		if k > 0 {
			stays(t, s, now-1, api.ErrOrder)
		}
		goes(t, s, now, number(k), data)
		put(t, s, long(api.MaxData+1), api.ErrLimit)
		stays(t, s, now+1, api.ErrNone)
	}
}

func TestSendNumbersByHand(t *testing.T) {
	want := map[int]int{0: 0, 1: 1, 2: 2, 127: 127, 128: 128, 254: 254, 255: 255, 256: 1, 257: 2, 510: 255, 511: 1, 765: 255, 766: 1}
	s := made(t, 1, 1)
	for k := range 800 {
		put(t, s, "", api.OK)
		x, err := s.Send(k)
		no(t, fmt.Sprintf("Send(%d)", k), err, api.OK)
		if seq, ok := want[k]; ok && x.Seq != seq {
			t.Errorf("message %d has the number %d, want %d", k, x.Seq, seq)
		}
		if x.Seq == 0 && k > 0 || x.Seq != number(k) {
			t.Errorf("message %d has the number %d, want %d", k, x.Seq, number(k))
		}
	}
}

// likeSender is a sender by another hand: all that was sent, and when, is kept, and looked through.
type likeSender struct {
	bag, queue int
	put        []string
	went       []int // when
	nows       []int
}

func (l *likeSender) many() int {
	return len(l.put) - len(l.went)
}

func (l *likeSender) puts(data string) api.Errno {
	if len(data) > 40 {
		return api.ErrLimit
	}
	if l.many() == l.queue {
		return api.ErrFull
	}
	l.put = append(l.put, data)
	return api.OK
}

func (l *likeSender) send(now int) (vlink.Item, api.Errno) {
	if !(0 <= now && now <= 1<<40) {
		return vlink.Item{}, api.ErrRange
	}
	for _, earlier := range l.nows {
		if now < earlier {
			return vlink.Item{}, api.ErrOrder
		}
	}
	l.nows = append(l.nows, now)
	k := len(l.went)
	if l.many() == 0 || k > 0 && now-l.went[k-1] < l.bag {
		return vlink.Item{}, api.ErrNone
	}
	l.went = append(l.went, now)
	return vlink.Item{Seq: number(k), Data: l.put[k]}, api.OK
}

// step is one call: a Put of a text, or a Send at a time.
type step struct {
	puts bool
	data string
	now  int
}

// do takes a step with both, and checks that they answer the same.
func (x step) do(t *testing.T, s *vlink.Sender, l *likeSender) {
	t.Helper()
	if x.puts {
		no(t, fmt.Sprintf("Put(%q)", x.data), s.Put(x.data), l.puts(x.data))
	} else {
		got, err := s.Send(x.now)
		want, e := l.send(x.now)
		no(t, fmt.Sprintf("Send(%d)", x.now), err, e)
		if got != want {
			t.Errorf("Send(%d): %v, want %v", x.now, got, want)
		}
	}
	for range 2 { // asked twice, for to ask changes nothing
		if s.Many() != l.many() {
			t.Errorf("behind %+v: %d wait, want %d", x, s.Many(), l.many())
		}
	}
}

// TestAllShortWays goes through all ways of five steps of some small senders.
func TestAllShortWays(t *testing.T) {
	choices := []step{{puts: true, data: "a"}, {puts: true, data: long(41)}, {now: -1}, {now: 0}, {now: 1}, {now: 2}, {now: 3}, {now: latest}, {now: latest + 1}}
	const steps = 5
	ways := 1
	for range steps {
		ways *= len(choices)
	}
	for _, l := range []likeSender{{bag: 1, queue: 1}, {bag: 2, queue: 2}, {bag: 3, queue: 1}} {
		for way := range ways {
			s, like := made(t, l.bag, l.queue), l
			for k, rest := 0, way; k < steps; k, rest = k+1, rest/len(choices) {
				x := choices[rest%len(choices)]
				if x.data == "a" {
					x.data += strconv.Itoa(k) // each message is another one
				}
				x.do(t, s, &like)
			}
			if t.Failed() {
				t.Fatalf("Bag %d, Queue %d, way %d", l.bag, l.queue, way)
			}
		}
	}
}

// step is one that is drawn: mostly one that is no error, near the greatest now until then.
func (d *die) step(k, bag, now int) step {
	switch d.n(12) {
	case 0:
		return step{now: belowAll[d.n(len(belowAll))]}
	case 1:
		return step{now: aboveAll[d.n(len(aboveAll))]}
	case 2:
		return step{now: now - d.n(bag+2)}
	case 3:
		return step{puts: true, data: long(38 + d.n(5))}
	case 4, 5, 6, 7:
		return step{puts: true, data: strconv.Itoa(k)}
	case 8:
		return step{now: now + bag - 1}
	case 9:
		return step{now: now + bag}
	}
	return step{now: now + d.n(bag+2)}
}

func TestDrawnWays(t *testing.T) {
	d := die(7)
	for queue := 1; queue <= api.MaxQueue; queue++ {
		for _, bag := range []int{1, 2, 3, 10, 1 << 20, latest / 100, latest / 3, latest} {
			for range 5 {
				s, l := made(t, bag, queue), &likeSender{bag: bag, queue: queue}
				now := 0
				for k := range 700 {
					d.step(k, bag, now).do(t, s, l)
					if len(l.nows) > 0 {
						now = l.nows[len(l.nows)-1]
						l.nows = l.nows[len(l.nows)-1:] // the greatest one: none below it came in behind it
					}
				}
				if t.Failed() {
					t.Fatalf("Bag %d, Queue %d", bag, queue)
				}
			}
		}
	}
}
