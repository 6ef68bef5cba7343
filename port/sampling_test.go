package port_test

import (
	"fmt"
	"math"
	"strconv"
	"strings"
	"testing"

	"metronome/api"
	"metronome/plain"
	"metronome/port"
)

const (
	least    = math.MinInt
	greatest = math.MaxInt
	latest   = 1 << 40 // api.MaxTime, by another hand
	longest  = 40      // api.MaxData
)

// belowAll and aboveAll are numbers beyond all bounds: as far off as an int goes, and where a sum, or a cut to fewer bits, would wrap round to one within.
var (
	belowAll = []int{least, least + 1, least + 16, least / 2, -1 << 41, -1<<40 - 1, -1 << 40, -1<<32 + 1, -1 << 32, -256, -255, -16, -1}
	aboveAll = []int{1<<40 + 1, 1 << 41, 1<<41 + 1, 1 << 62, 1<<62 + 1, greatest / 2, greatest - 16, greatest - 1, greatest}
)

// long is a text of so many bytes.
func long(bytes int) string {
	return strings.Repeat("x", bytes)
}

// die gives numbers that look drawn, the same each time.
type die uint64

func (d *die) n(most int) int {
	*d = *d*6364136223846793005 + 1442695040888963407
	return int(uint64(*d>>20) % uint64(most))
}

// no checks an error: it is of no place.
func no(t *testing.T, what string, err error, want api.Errno) {
	t.Helper()
	if e, place := plain.Place(err); e != want || place != -1 {
		t.Errorf("%s: error %d at %d, want %d", what, e, place, want)
	}
}

// sampling is a port that must be there, without a message.
func sampling(t *testing.T, keep int) *port.Sampling {
	t.Helper()
	s, err := port.NewSampling(keep)
	if err != nil || s == nil {
		t.Fatalf("NewSampling(%d): %v, %v", keep, s, err)
	}
	unread(t, s, 0, api.ErrNone)
	return s
}

// write checks Write.
func write(t *testing.T, s *port.Sampling, data string, now int, want api.Errno) {
	t.Helper()
	no(t, fmt.Sprintf("Write(%q, %d)", data, now), s.Write(data, now), want)
}

// reads checks a Read that tells a message, and that it changes nothing.
func reads(t *testing.T, s *port.Sampling, now int, data string, fresh bool) {
	t.Helper()
	for range 2 {
		x, ok, err := s.Read(now)
		no(t, fmt.Sprintf("Read(%d)", now), err, api.OK)
		if x != data || ok != fresh {
			t.Errorf("Read(%d): %q, %t, want %q, %t", now, x, ok, data, fresh)
		}
	}
}

// unread checks a Read that is wrong: nothing is told beside the error.
func unread(t *testing.T, s *port.Sampling, now int, want api.Errno) {
	t.Helper()
	x, fresh, err := s.Read(now)
	no(t, fmt.Sprintf("Read(%d)", now), err, want)
	if x != "" || fresh {
		t.Errorf("Read(%d): %q, %t beside an error", now, x, fresh)
	}
}

// 8.1: NewSampling

func TestNewSampling(t *testing.T) {
	for _, keep := range []int{1, 2, 1000, 1<<32 - 1, 1 << 32, latest - 1, latest} {
		s := sampling(t, keep)
		write(t, s, "a", 0, api.OK)
		reads(t, s, keep-1, "a", true)
		reads(t, s, keep, "a", false)
	}
}

func TestNewSamplingOfWrong(t *testing.T) {
	for _, keep := range append(append([]int{0, latest + 1}, belowAll...), aboveAll...) {
		s, err := port.NewSampling(keep)
		no(t, fmt.Sprintf("NewSampling(%d)", keep), err, api.ErrRange)
		if s != nil {
			t.Errorf("NewSampling(%d): a port beside an error", keep)
		}
	}
}

// TestSamplingsAreApart: what is written to one port is nothing to another one, though it is made alike.
func TestSamplingsAreApart(t *testing.T) {
	a, b := sampling(t, 10), sampling(t, 10)
	write(t, a, "a", 100, api.OK)
	unread(t, b, 100, api.ErrNone)
	write(t, b, "b", 1, api.OK)
	reads(t, a, 105, "a", true)
	reads(t, b, 105, "b", false)
	unread(t, sampling(t, 10), 105, api.ErrNone)
}

// 8.1: Write

func TestWrite(t *testing.T) {
	s := sampling(t, 10)
	write(t, s, "a", 5, api.OK)
	reads(t, s, 5, "a", true)
	write(t, s, "b", 7, api.OK) // the last one alone is there
	reads(t, s, 7, "b", true)
	unread(t, s, 6, api.ErrOrder)
	write(t, s, "", 7, api.OK) // an empty one is one, too
	reads(t, s, 7, "", true)
	reads(t, s, 17, "", false)
}

func TestWriteOfAllLengths(t *testing.T) {
	for bytes := range 2*longest + 2 {
		s := sampling(t, 1)
		if bytes > longest {
			write(t, s, long(bytes), 0, api.ErrLimit)
			unread(t, s, 0, api.ErrNone)
			continue
		}
		write(t, s, long(bytes), 0, api.OK)
		reads(t, s, 0, long(bytes), true)
	}
	s := sampling(t, 1)
	for _, bytes := range []int{255, 256, 256 + 1, 1 << 16, 1<<16 + 1, 1 << 20} {
		write(t, s, long(bytes), 0, api.ErrLimit)
	}
	unread(t, s, 0, api.ErrNone)
}

// TestWriteCountsBytes: a text is its bytes, whatever they are.
func TestWriteCountsBytes(t *testing.T) {
	s := sampling(t, 1)
	for now, data := range []string{strings.Repeat("é", 20), strings.Repeat("\xff", 40), strings.Repeat("\x00", 40), "\n a\t", strings.Repeat("é", 19) + "\xc3x"} {
		write(t, s, data, now, api.OK)
		for _, more := range []string{strings.Repeat("é", 20) + "x", strings.Repeat("é", 21), strings.Repeat("\xff", 41), strings.Repeat("\x00", 41)} {
			write(t, s, more, now, api.ErrLimit)
		}
		reads(t, s, now, data, true)
	}
}

func TestWriteBounds(t *testing.T) {
	s := sampling(t, 1)
	write(t, s, "a", -1, api.ErrRange)
	write(t, s, "a", latest+1, api.ErrRange)
	unread(t, s, 0, api.ErrNone)
	write(t, s, "b", 0, api.OK)
	write(t, s, "c", -1, api.ErrRange)
	reads(t, s, 0, "b", true)
	write(t, s, "d", latest, api.OK)
	write(t, s, "e", latest+1, api.ErrRange)
	reads(t, s, latest, "d", true)
	write(t, s, "f", latest-1, api.ErrOrder)
	write(t, s, "g", latest, api.OK)
	reads(t, s, latest, "g", true)
}

// TestWriteOfWrong: numbers beyond the bounds change nothing, whatever was written before.
func TestWriteOfWrong(t *testing.T) {
	for _, now := range append(append([]int{}, belowAll...), aboveAll...) {
		s := sampling(t, 2)
		write(t, s, "a", now, api.ErrRange)
		unread(t, s, greatest, api.ErrNone)
		for time := range 3 {
			data := strconv.Itoa(time)
			write(t, s, data, time, api.OK)
			write(t, s, "b", now, api.ErrRange)
			reads(t, s, time, data, true)
			reads(t, s, time+2, data, false)
		}
	}
}

// TestWriteOrder: a now below that of the last Write is wrong, the same is not, nor is one more.
func TestWriteOrder(t *testing.T) {
	for _, time := range []int{1, 2, 50, 1 << 32, latest - 1, latest} {
		s := sampling(t, 1)
		write(t, s, "a", time, api.OK)
		write(t, s, "b", time-1, api.ErrOrder)
		write(t, s, "b", 0, api.ErrOrder)
		reads(t, s, time, "a", true)
		unread(t, s, time-1, api.ErrOrder)
		write(t, s, "c", time, api.OK)
		reads(t, s, time, "c", true)
		if time == latest {
			continue
		}
		write(t, s, "d", time+1, api.OK)
		unread(t, s, time, api.ErrOrder)
		reads(t, s, time+1, "d", true)
		write(t, s, "e", time, api.ErrOrder)
	}
}

// TestWriteOrderIsOfDone: the now of a Write that was answered an error is nothing to the next one, be it above or below.
func TestWriteOrderIsOfDone(t *testing.T) {
	s := sampling(t, 100)
	write(t, s, long(41), 90, api.ErrLimit)
	write(t, s, "x", latest+1, api.ErrRange)
	write(t, s, "a", 10, api.OK) // 90 was never written at
	write(t, s, long(41), 90, api.ErrLimit)
	write(t, s, "b", 10, api.OK)
	write(t, s, "x", greatest, api.ErrRange)
	write(t, s, "c", 10, api.OK)
	reads(t, s, 10, "c", true)
	write(t, s, "d", 11, api.OK)

	write(t, s, "x", 5, api.ErrOrder)
	write(t, s, "x", 8, api.ErrOrder) // though 5 was the one ahead of it
	write(t, s, "x", -1, api.ErrRange)
	write(t, s, "x", 10, api.ErrOrder)
	write(t, s, long(41), 3, api.ErrLimit)
	write(t, s, "x", 10, api.ErrOrder)
	reads(t, s, 11, "d", true)
	write(t, s, "e", 11, api.OK)
	write(t, s, "f", 12, api.OK)
	write(t, s, "x", 11, api.ErrOrder)
	reads(t, s, 12, "f", true)
}

// TestWriteIsNotBoundByReads: a Read at a later time, done or not, is nothing to a Write.
func TestWriteIsNotBoundByReads(t *testing.T) {
	s := sampling(t, 10)
	unread(t, s, 50, api.ErrNone)
	write(t, s, "a", 5, api.OK)
	reads(t, s, 50, "a", false)
	write(t, s, "b", 6, api.OK)
	unread(t, s, 5, api.ErrOrder)
	reads(t, s, 15, "b", true)
	reads(t, s, 6, "b", true) // nor is it to a Read
}

// TestWriteOfSeveralWrong: ErrLimit is told ahead of ErrRange, that ahead of ErrOrder.
func TestWriteOfSeveralWrong(t *testing.T) {
	s := sampling(t, 10)
	write(t, s, long(41), -1, api.ErrLimit)
	write(t, s, long(41), latest+1, api.ErrLimit)
	write(t, s, "a", 5, api.OK)
	for _, now := range []int{least, -1, 4, latest + 1, greatest} {
		write(t, s, long(41), now, api.ErrLimit)
	}
	write(t, s, "b", -1, api.ErrRange) // below the last one's, too
	write(t, s, "b", least, api.ErrRange)
	write(t, s, "b", 4, api.ErrOrder)
	reads(t, s, 5, "a", true)
}

// TestWhatIsWrittenIsItsOwn: the bytes that a text was made of may be written anew.
func TestWhatIsWrittenIsItsOwn(t *testing.T) {
	s := sampling(t, 1)
	b := []byte("abc")
	write(t, s, string(b), 0, api.OK)
	copy(b, "xyz")
	reads(t, s, 0, "abc", true)
}

// 8.1: Read

// TestReadOfNothing: there is none at any time, also where one might not be.
func TestReadOfNothing(t *testing.T) {
	s := sampling(t, 1)
	for _, now := range append(append([]int{0, 1, latest - 1, latest}, belowAll...), aboveAll...) {
		unread(t, s, now, api.ErrNone)
	}
}

// TestReadFresh: at its time and keep less one behind it a message is fresh, keep behind it not; that message is told all the same.
func TestReadFresh(t *testing.T) {
	for _, keep := range []int{1, 2, 3, 10, 1 << 32, latest - 1, latest} {
		for _, time := range []int{0, 1, 7, 1 << 33, latest - 1, latest} {
			s := sampling(t, keep)
			write(t, s, "a", time, api.OK)
			reads(t, s, time, "a", true)
			reads(t, s, time+keep/2, "a", true)
			reads(t, s, time+keep-1, "a", true)
			reads(t, s, time+keep, "a", false)
			reads(t, s, time+keep+1, "a", false)
			unread(t, s, time-1, api.ErrOrder)
			reads(t, s, time, "a", true) // it was not fresh meanwhile
		}
	}
}

// TestReadOfAnyTime: a Read is bound by the message's time alone, as far off as an int goes.
func TestReadOfAnyTime(t *testing.T) {
	for _, keep := range []int{1, latest} {
		for _, time := range []int{0, 1, latest} {
			s := sampling(t, keep)
			write(t, s, "a", time, api.OK)
			for _, now := range belowAll {
				unread(t, s, now, api.ErrOrder)
			}
			for _, now := range aboveAll {
				reads(t, s, now, "a", now <= time+(keep-1))
			}
		}
	}
}

// TestReadIsOfLast: how old a message is hangs on the last Write, not on the first one, also where both say the same.
func TestReadIsOfLast(t *testing.T) {
	s := sampling(t, 10)
	for _, time := range []int{0, 9, 10, 25} {
		write(t, s, "a", time, api.OK)
		reads(t, s, time+9, "a", true)
		reads(t, s, time+10, "a", false)
	}
}

// likeSampling is a port by another hand: all that was written is kept.
type likeSampling struct {
	keep  int
	data  []string
	times []int
}

func (l *likeSampling) write(data string, now int) api.Errno {
	if len(data) >= 41 {
		return api.ErrLimit
	}
	if !(0 <= now && now <= 1<<40) {
		return api.ErrRange
	}
	for _, time := range l.times {
		if time > now {
			return api.ErrOrder
		}
	}
	l.data, l.times = append(l.data, data), append(l.times, now)
	return api.OK
}

func (l *likeSampling) read(now int) (string, bool, api.Errno) {
	if len(l.data) == 0 {
		return "", false, api.ErrNone
	}
	k := len(l.data) - 1
	if l.times[k] > now {
		return "", false, api.ErrOrder
	}
	return l.data[k], now <= l.times[k]+l.keep-1, api.OK
}

// touch is one call of a sampling port: a Write of a text, or a Read, at a time.
type touch struct {
	writes bool
	data   string
	now    int
}

// do does a call with both, and checks that they answer the same.
func (x touch) do(t *testing.T, s *port.Sampling, l *likeSampling) {
	t.Helper()
	if x.writes {
		write(t, s, x.data, x.now, l.write(x.data, x.now))
		return
	}
	data, fresh, e := l.read(x.now)
	if e != api.OK {
		unread(t, s, x.now, e)
		return
	}
	reads(t, s, x.now, data, fresh)
}

// TestAllShortSamplings goes through all ways of four calls of some ports.
func TestAllShortSamplings(t *testing.T) {
	choices := []touch{{writes: true, data: long(41), now: 3}}
	for _, now := range []int{-1, 0, 1, 2, latest, latest + 1} {
		choices = append(choices, touch{writes: true, data: "a", now: now}, touch{now: now})
	}
	const calls = 4
	ways := 1
	for range calls {
		ways *= len(choices)
	}
	for _, keep := range []int{1, 2, latest} {
		for way := range ways {
			s, l := sampling(t, keep), &likeSampling{keep: keep}
			for k, rest := 0, way; k < calls; k, rest = k+1, rest/len(choices) {
				x := choices[rest%len(choices)]
				if x.data == "a" {
					x.data += strconv.Itoa(k) // each message is another one
				}
				x.do(t, s, l)
			}
			if t.Failed() {
				t.Fatalf("keep %d, way %d", keep, way)
			}
		}
	}
}

// touch is one that is drawn, mostly near the last Write that was done.
func (d *die) touch(k, keep, time int) touch {
	x := touch{writes: d.n(2) == 0, data: strconv.Itoa(k)}
	switch d.n(10) {
	case 0:
		x.now = belowAll[d.n(len(belowAll))]
	case 1:
		x.now = aboveAll[d.n(len(aboveAll))]
	case 2:
		x.now = time - d.n(keep+2)
	case 3:
		x.data = long(38 + d.n(5))
		x.now = time + d.n(2)
	case 4:
		x.now = time + keep - 1
	case 5:
		x.now = time + keep
	default:
		x.now = time + d.n(3)
	}
	return x
}

func TestDrawnSamplings(t *testing.T) {
	d := die(3)
	for _, keep := range []int{1, 2, 3, 10, 1 << 20, latest / 100, latest / 3, latest} {
		for range 20 {
			s, l := sampling(t, keep), &likeSampling{keep: keep}
			for k := range 300 {
				time := 0
				if n := len(l.times); n > 0 {
					time = l.times[n-1]
				}
				d.touch(k, keep, time).do(t, s, l)
			}
			if t.Failed() {
				t.Fatalf("keep %d", keep)
			}
		}
	}
}
