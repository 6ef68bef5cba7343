package port_test

import (
	"fmt"
	"strconv"
	"strings"
	"testing"

	"metronome/api"
	"metronome/port"
)

const mostOfAll = 16 // api.MaxQueue, by another hand

// queuing is a port that must be there, with nothing in it.
func queuing(t *testing.T, most int) *port.Queuing {
	t.Helper()
	q, err := port.NewQueuing(most)
	if err != nil || q == nil {
		t.Fatalf("NewQueuing(%d): %v, %v", most, q, err)
	}
	has(t, q, 0, 0)
	return q
}

// has checks Many and Lost, and that they change nothing.
func has(t *testing.T, q *port.Queuing, many, lost int) {
	t.Helper()
	for range 2 {
		if q.Many() != many || q.Lost() != lost {
			t.Errorf("Many, Lost: %d, %d, want %d, %d", q.Many(), q.Lost(), many, lost)
		}
	}
}

// send checks Send, and what is there, and lost, behind it.
func send(t *testing.T, q *port.Queuing, data string, want api.Errno) {
	t.Helper()
	many, lost := q.Many(), q.Lost()
	no(t, fmt.Sprintf("Send(%q)", data), q.Send(data), want)
	switch want {
	case api.OK:
		many++
	case api.ErrFull:
		lost++
	}
	has(t, q, many, lost)
}

// receive checks a Receive that takes a message out.
func receive(t *testing.T, q *port.Queuing, data string) {
	t.Helper()
	many, lost := q.Many(), q.Lost()
	x, err := q.Receive()
	no(t, "Receive", err, api.OK)
	if x != data {
		t.Errorf("Receive: %q, want %q", x, data)
	}
	has(t, q, many-1, lost)
}

// empty checks a Receive of nothing.
func empty(t *testing.T, q *port.Queuing) {
	t.Helper()
	lost := q.Lost()
	for range 2 {
		x, err := q.Receive()
		no(t, "Receive", err, api.ErrNone)
		if x != "" {
			t.Errorf("Receive: %q beside an error", x)
		}
		has(t, q, 0, lost)
	}
}

// 8.2: NewQueuing

// TestNewQueuing: each most that may be is kept: so many fit, and no more.
func TestNewQueuing(t *testing.T) {
	for most := 1; most <= mostOfAll; most++ {
		q := queuing(t, most)
		empty(t, q)
		for k := range most {
			send(t, q, strconv.Itoa(k), api.OK)
		}
		send(t, q, "more", api.ErrFull)
		has(t, q, most, 1)
	}
}

func TestNewQueuingOfWrong(t *testing.T) {
	for _, most := range append(append([]int{0, mostOfAll + 1, 32, 256, 256 + 1, 1<<32 + 1, latest}, belowAll...), aboveAll...) {
		q, err := port.NewQueuing(most)
		no(t, fmt.Sprintf("NewQueuing(%d)", most), err, api.ErrRange)
		if q != nil {
			t.Errorf("NewQueuing(%d): a port beside an error", most)
		}
	}
}

// TestQueuingsAreApart: what is sent to one port is nothing to another one, though it is made alike.
func TestQueuingsAreApart(t *testing.T) {
	a, b := queuing(t, 2), queuing(t, 2)
	send(t, a, "a", api.OK)
	send(t, a, "b", api.OK)
	send(t, a, "c", api.ErrFull)
	has(t, b, 0, 0)
	empty(t, b)
	send(t, b, "d", api.OK)
	receive(t, a, "a")
	has(t, b, 1, 0)
	receive(t, b, "d")
	receive(t, a, "b")
	empty(t, queuing(t, 2))
}

// 8.2: Send

func TestSendOfAllLengths(t *testing.T) {
	for bytes := range 2*longest + 2 {
		q := queuing(t, 1)
		if bytes > longest {
			send(t, q, long(bytes), api.ErrLimit)
			empty(t, q)
			continue
		}
		send(t, q, long(bytes), api.OK)
		receive(t, q, long(bytes))
	}
	q := queuing(t, 1)
	for _, bytes := range []int{255, 256, 256 + 1, 1 << 16, 1<<16 + 1, 1 << 20} {
		send(t, q, long(bytes), api.ErrLimit)
	}
	empty(t, q)
	has(t, q, 0, 0)
}

// TestSendCountsBytes: a text is its bytes, whatever they are.
func TestSendCountsBytes(t *testing.T) {
	q := queuing(t, mostOfAll)
	texts := []string{strings.Repeat("é", 20), strings.Repeat("\xff", 40), strings.Repeat("\x00", 40), "\n a\t", "", strings.Repeat("é", 19) + "\xc3x"}
	for _, data := range texts {
		send(t, q, data, api.OK)
	}
	for _, more := range []string{strings.Repeat("é", 20) + "x", strings.Repeat("é", 21), strings.Repeat("\xff", 41), strings.Repeat("\x00", 41)} {
		send(t, q, more, api.ErrLimit)
	}
	for _, data := range texts {
		receive(t, q, data)
	}
	empty(t, q)
}

// TestSendUntilFull: with most less one there is room, with most there is none, at first and when one was taken out; what finds no room is lost, and does not come in later.
func TestSendUntilFull(t *testing.T) {
	for most := 1; most <= mostOfAll; most++ {
		q := queuing(t, most)
		for k := range most {
			send(t, q, strconv.Itoa(k), api.OK)
		}
		lost := 0
		for _, data := range []string{"more", "", long(longest)} {
			send(t, q, data, api.ErrFull)
			lost++
		}
		for k := range 3 * most {
			receive(t, q, strconv.Itoa(k))
			send(t, q, strconv.Itoa(most+k), api.OK)
			send(t, q, "more", api.ErrFull)
			lost++
		}
		for k := 3 * most; k < 4*most; k++ {
			receive(t, q, strconv.Itoa(k))
		}
		empty(t, q)
		has(t, q, 0, lost)
		send(t, q, "again", api.OK)
		receive(t, q, "again")
	}
}

// TestSendTooLongIsNotLost: what is too long is not lost, though there is no room for it, either: that is told first.
func TestSendTooLongIsNotLost(t *testing.T) {
	q := queuing(t, 1)
	send(t, q, long(longest+1), api.ErrLimit)
	has(t, q, 0, 0)
	send(t, q, "a", api.OK)
	send(t, q, long(longest+1), api.ErrLimit)
	has(t, q, 1, 0)
	send(t, q, long(longest), api.ErrFull)
	has(t, q, 1, 1)
	send(t, q, long(longest+1), api.ErrLimit)
	has(t, q, 1, 1)
	receive(t, q, "a")
	empty(t, q)
	has(t, q, 0, 1)
}

// TestWhatIsSentIsItsOwn: the bytes that a text was made of may be written anew.
func TestWhatIsSentIsItsOwn(t *testing.T) {
	q := queuing(t, 2)
	b := []byte("abc")
	send(t, q, string(b), api.OK)
	copy(b, "xyz")
	send(t, q, string(b), api.OK)
	copy(b, "---")
	receive(t, q, "abc")
	receive(t, q, "xyz")
}

// 8.2: Receive, Many, Lost

// TestReceive: the eldest one comes first, whatever it says, and each once.
func TestReceive(t *testing.T) {
	q := queuing(t, 4)
	empty(t, q)
	for _, data := range []string{"c", "a", "", "a"} {
		send(t, q, data, api.OK)
	}
	receive(t, q, "c")
	receive(t, q, "a")
	send(t, q, "b", api.OK)
	receive(t, q, "")
	receive(t, q, "a")
	receive(t, q, "b")
	empty(t, q)
	send(t, q, "d", api.OK)
	receive(t, q, "d")
	empty(t, q)
	has(t, q, 0, 0)
}

// TestLostStays: how many were lost grows only; what is taken out later makes none of them good.
func TestLostStays(t *testing.T) {
	q := queuing(t, 1)
	for k := range 1000 {
		send(t, q, "a", api.OK)
		has(t, q, 1, k)
		send(t, q, "b", api.ErrFull)
		has(t, q, 1, k+1)
		receive(t, q, "a")
		empty(t, q)
	}
	has(t, q, 0, 1000)
}

// likeQueuing is a port by another hand: all that came in is kept, and how many of it went out.
type likeQueuing struct {
	most, out, lost int
	in              []string
}

func (l *likeQueuing) many() int {
	return len(l.in) - l.out
}

func (l *likeQueuing) send(data string) api.Errno {
	if len(data) >= 41 {
		return api.ErrLimit
	}
	if l.many() == l.most {
		l.lost++
		return api.ErrFull
	}
	l.in = append(l.in, data)
	return api.OK
}

// sends does a Send with both.
func (l *likeQueuing) sends(t *testing.T, q *port.Queuing, data string) {
	t.Helper()
	send(t, q, data, l.send(data))
	has(t, q, l.many(), l.lost)
}

// receives does a Receive with both.
func (l *likeQueuing) receives(t *testing.T, q *port.Queuing) {
	t.Helper()
	if l.many() == 0 {
		empty(t, q)
	} else {
		receive(t, q, l.in[l.out])
		l.out++
	}
	has(t, q, l.many(), l.lost)
}

// TestAllShortQueuings goes through all ways of eight calls of small ports.
func TestAllShortQueuings(t *testing.T) {
	const calls = 8
	ways := 1
	for range calls {
		ways *= 3
	}
	for most := 1; most <= 4; most++ {
		for way := range ways {
			q, l := queuing(t, most), &likeQueuing{most: most}
			for k, rest := 0, way; k < calls; k, rest = k+1, rest/3 {
				switch rest % 3 {
				case 0:
					l.sends(t, q, strconv.Itoa(k))
				case 1:
					l.sends(t, q, long(longest+1))
				default:
					l.receives(t, q)
				}
			}
			if t.Failed() {
				t.Fatalf("most %d, way %d", most, way)
			}
		}
	}
}

// TestDrawnQueuings: calls that are drawn, now more Sends, now more Receives, so that ports are now full, now empty.
func TestDrawnQueuings(t *testing.T) {
	d := die(5)
	for most := 1; most <= mostOfAll; most++ {
		for range 10 {
			q, l := queuing(t, most), &likeQueuing{most: most}
			for k := range 500 {
				if sends := 1 + 2*(k/100%2); d.n(4) >= sends {
					l.receives(t, q)
				} else if d.n(10) == 0 {
					l.sends(t, q, long(38+d.n(5)))
				} else {
					l.sends(t, q, strconv.Itoa(k))
				}
			}
			if t.Failed() {
				t.Fatalf("most %d", most)
			}
		}
	}
}
