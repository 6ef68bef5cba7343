package part_test

import (
	"fmt"
	"math"
	"slices"
	"testing"

	"metronome/api"
	"metronome/part"
	"metronome/plain"
)

const (
	least    = math.MinInt
	greatest = math.MaxInt
	latest   = 1 << 40 // api.MaxTime, by another hand
	most     = 32      // api.MaxSlots
	parts    = 6       // api.MaxParts
)

// belowAll and aboveAll are numbers beyond all bounds: as far off as an int goes, and where a sum, a difference, or a cut to fewer bits, would wrap round to one within.
var (
	belowAll = []int{least, least + 1, least + 5, least / 2, -1 << 41, -1<<40 - 1, -1 << 40, -1<<32 + 1, -1 << 32, -256, -255, -1}
	aboveAll = []int{1<<40 + 1, 1 << 41, 1<<41 + 1, 1 << 62, greatest / 2, greatest - 5, greatest - 1, greatest}
)

// die gives numbers that look drawn, the same each time.
type die uint64

func (d *die) n(most int) int {
	*d = *d*6364136223846793005 + 1442695040888963407
	return int(uint64(*d>>20) % uint64(most))
}

// win is a window.
func win(part, from, to int) api.Window {
	return api.Window{Part: part, Span: api.Span{From: from, To: to}}
}

// made is a table that must be there.
func made(t *testing.T, frame int, l ...api.Window) *part.Table {
	t.Helper()
	x, err := part.New(frame, l)
	if err != nil || x == nil {
		t.Fatalf("New(%d, %v): %v, %v", frame, l, x, err)
	}
	return x
}

// unmade checks a New that is wrong: an error at a place (-1: at none), no table beside it, and a list that reads as it did.
func unmade(t *testing.T, frame int, l []api.Window, want api.Errno, place int) {
	t.Helper()
	was := slices.Clone(l)
	x, err := part.New(frame, l)
	if e, p := plain.Place(err); e != want || p != place {
		t.Errorf("New(%d, %v): error %d at %d, want %d at %d", frame, l, e, p, want, place)
	}
	if x != nil {
		t.Errorf("New(%d, %v): a table beside an error", frame, l)
	}
	if !slices.Equal(l, was) {
		t.Errorf("New(%d, %v) wrote into its list: %v", frame, was, l)
	}
}

// at checks At, and that it changes nothing.
func at(t *testing.T, x *part.Table, now, part, left int) {
	t.Helper()
	for range 2 {
		if p, l, err := x.At(now); p != part || l != left || err != nil {
			t.Errorf("At(%d): %d, %d, %v, want %d, %d", now, p, l, err, part, left)
		}
	}
}

// notAt checks an At that is wrong: nothing is told beside the error, which is of no place.
func notAt(t *testing.T, x *part.Table, now int) {
	t.Helper()
	p, l, err := x.At(now)
	if e, place := plain.Place(err); e != api.ErrRange || place != -1 || p != 0 || l != 0 {
		t.Errorf("At(%d): %d, %d, error %d at %d, want error %d", now, p, l, e, place, api.ErrRange)
	}
}

// share checks Share, and that it changes nothing.
func share(t *testing.T, x *part.Table, part, want int) {
	t.Helper()
	for range 2 {
		if got := x.Share(part); got != want {
			t.Errorf("Share(%d): %d, want %d", part, got, want)
		}
	}
}

// touching are so many windows, each of length 1, each beginning where the one ahead ends, of all partitions in turn.
func touching(many int) (l []api.Window) {
	for k := range many {
		l = append(l, win(k%parts, k, k+1))
	}
	return l
}

// 9.1: New

func TestNewFrame(t *testing.T) {
	for _, frame := range []int{1, 2, 10, 1 << 32, latest - 1, latest} {
		x := made(t, frame)
		at(t, x, 0, -1, -1)
		x = made(t, frame, win(2, 0, frame))
		at(t, x, frame-1, 2, 1)
		share(t, x, 2, frame)
		unmade(t, frame, []api.Window{win(2, 0, frame+1)}, api.ErrRange, 0)
	}
	for _, frame := range append(append([]int{0, latest + 1}, belowAll...), aboveAll...) {
		unmade(t, frame, nil, api.ErrRange, -1)
		unmade(t, frame, []api.Window{win(0, 0, 1)}, api.ErrRange, -1)
		unmade(t, frame, []api.Window{win(-1, 1, 0)}, api.ErrRange, -1)
		unmade(t, frame, touching(most+1), api.ErrRange, -1) // told ahead of ErrLimit
	}
}

func TestNewMany(t *testing.T) {
	for many := range most + 1 {
		x := made(t, most+8, touching(many)...)
		for now := range many {
			at(t, x, now, now%parts, 1)
		}
		if many > 0 {
			at(t, x, many, -1, most+8-many)
		}
	}
	for _, many := range []int{most + 1, most + 2, 2 * most, 256, 256 + 1, 1 << 16, 1<<16 + 1} {
		unmade(t, latest, touching(many), api.ErrLimit, -1)
		unmade(t, 1, touching(many), api.ErrLimit, -1)                 // their To is above frame, too
		unmade(t, 1, make([]api.Window, many), api.ErrLimit, -1)       // they are empty, too
		unmade(t, 0, make([]api.Window, many), api.ErrRange, -1)       // told ahead of it
		unmade(t, 1, make([]api.Window, most), api.ErrArg, 0)          // as many as there may be
		unmade(t, most-1, touching(many)[:most], api.ErrRange, most-1) // the last one, though more stand behind it
	}
}

// TestNewOfNone: there may be no windows at all, in a list that is nil or not.
func TestNewOfNone(t *testing.T) {
	for _, l := range [][]api.Window{nil, {}, touching(3)[:0]} {
		for _, frame := range []int{1, 7, latest} {
			x, err := part.New(frame, l)
			if err != nil || x == nil {
				t.Fatalf("New(%d, %v): %v, %v", frame, l, x, err)
			}
			for _, now := range []int{0, 1, 6, 7, latest - 1, latest} {
				at(t, x, now, -1, -1)
			}
			notAt(t, x, -1)
			notAt(t, x, latest+1)
			for p := -1; p <= parts; p++ {
				share(t, x, p, 0)
			}
		}
	}
}

// TestNewWindow: the edges of a window that is alone.
func TestNewWindow(t *testing.T) {
	for _, c := range []struct {
		part, from, to int
		want           api.Errno
	}{
		{0, 4, 5, api.OK}, {0, 5, 5, api.ErrArg}, {0, 6, 5, api.ErrArg}, // From below, at, above To
		{0, 0, 10, api.OK}, {0, 0, 0, api.ErrArg}, {0, 10, 10, api.ErrArg}, {0, 10, 0, api.ErrArg},
		{0, 0, 1, api.OK}, {0, -1, 1, api.ErrOrder}, {0, -1, 0, api.ErrOrder}, {0, -2, -1, api.ErrOrder}, {0, -1, -1, api.ErrArg}, {0, -1, -2, api.ErrArg},
		{0, 9, 10, api.OK}, {0, 9, 11, api.ErrRange}, {0, 0, 11, api.ErrRange}, {0, 10, 11, api.ErrRange}, {0, 11, 12, api.ErrRange}, {0, 11, 11, api.ErrArg},
		{-1, 3, 7, api.ErrMissing}, {0, 3, 7, api.OK}, {1, 3, 7, api.OK}, {5, 3, 7, api.OK}, {6, 3, 7, api.ErrMissing}, {7, 3, 7, api.ErrMissing},
		{-1, 7, 3, api.ErrArg}, {6, -1, 3, api.ErrOrder}, {-1, 3, 11, api.ErrRange}, {0, -1, 11, api.ErrOrder}, // several are wrong
		{6, 12, -1, api.ErrArg}, {6, -1, 12, api.ErrOrder}, {6, 0, 12, api.ErrRange},
	} {
		w := win(c.part, c.from, c.to)
		if c.want == api.OK {
			share(t, made(t, 10, w), c.part, c.to-c.from)
			continue
		}
		unmade(t, 10, []api.Window{w}, c.want, 0)
		unmade(t, 10, []api.Window{w, win(0, 7, 8)}, c.want, 0)
		unmade(t, 10, []api.Window{w, w, w}, c.want, 0)
	}
}

// TestNewOrder: From below, at and above the To of the one ahead, at each number.
func TestNewOrder(t *testing.T) {
	for k := 1; k < most; k++ {
		ahead := touching(k)
		const frame = 100
		unmade(t, frame, append(slices.Clone(ahead), win(0, k-1, k+3)), api.ErrOrder, k)
		unmade(t, frame, append(slices.Clone(ahead), win(0, 0, k)), api.ErrOrder, k)
		unmade(t, frame, append(slices.Clone(ahead), win(0, -1, k+3)), api.ErrOrder, k)
		unmade(t, frame, append(slices.Clone(ahead), win(0, -2, -1)), api.ErrOrder, k)
		made(t, frame, append(slices.Clone(ahead), win(0, k, k+3))...)
		made(t, frame, append(slices.Clone(ahead), win(0, k+1, k+3))...)
		unmade(t, frame, append(slices.Clone(ahead), win(0, k, k)), api.ErrArg, k)
		unmade(t, frame, append(slices.Clone(ahead), win(0, k+1, k)), api.ErrArg, k)
		made(t, frame, append(slices.Clone(ahead), win(0, k, frame))...)
		unmade(t, frame, append(slices.Clone(ahead), win(0, k, frame+1)), api.ErrRange, k)
		unmade(t, frame, append(slices.Clone(ahead), win(-1, k, frame)), api.ErrMissing, k)
		made(t, frame, append(slices.Clone(ahead), win(parts-1, k, frame))...)
		unmade(t, frame, append(slices.Clone(ahead), win(parts, k, frame)), api.ErrMissing, k)
	}
	unmade(t, 10, []api.Window{win(0, 2, 5), win(0, 4, 6)}, api.ErrOrder, 1)
	unmade(t, 10, []api.Window{win(0, 5, 6), win(0, 2, 3)}, api.ErrOrder, 1)
	unmade(t, 10, []api.Window{win(0, 0, 9), win(0, 2, 3), win(0, 9, 10)}, api.ErrOrder, 1)
	// It is held against the one ahead of it, not against the first one.
	unmade(t, 10, []api.Window{win(0, 0, 1), win(0, 4, 6), win(0, 1, 2)}, api.ErrOrder, 2)
}

// TestNewOfSeveralWrong: of several windows the first one's is told, each wholly ahead of the next one; of one window ErrArg, ErrOrder, ErrRange, ErrMissing, in that order.
func TestNewOfSeveralWrong(t *testing.T) {
	wrongs := []struct {
		w    api.Window // behind one that is from 2 to 4, in a frame of 10
		want api.Errno
	}{
		{win(0, 6, 6), api.ErrArg},
		{win(0, 3, 6), api.ErrOrder},
		{win(0, 6, 11), api.ErrRange},
		{win(6, 6, 7), api.ErrMissing},
		{win(6, 12, 11), api.ErrArg},   // and ErrRange, ErrMissing
		{win(6, 3, 3), api.ErrArg},     // and ErrOrder, ErrMissing
		{win(6, 3, 11), api.ErrOrder},  // and ErrRange, ErrMissing
		{win(-1, 3, 4), api.ErrOrder},  // and ErrMissing
		{win(-1, 6, 11), api.ErrRange}, // and ErrMissing
	}
	for _, a := range wrongs {
		for _, b := range wrongs {
			unmade(t, 10, []api.Window{win(1, 2, 4), a.w, b.w}, a.want, 1)
			unmade(t, 10, []api.Window{win(1, 2, 4), win(1, 4, 5), a.w, b.w, a.w}, a.want, 2)
		}
	}
}

// TestNewOfWrong: numbers as far off as an int goes, one, two or all three of a window.
func TestNewOfWrong(t *testing.T) {
	l := append(append([]int{0, 1, 5, 6, latest - 1, latest}, belowAll...), aboveAll...)
	for _, frame := range []int{1, 6, latest} {
		for _, part := range l {
			for _, from := range l {
				for _, to := range l {
					news(t, frame, []api.Window{win(part, from, to)})
					news(t, frame, []api.Window{win(3, 0, 1), win(part, from, to)})
				}
			}
		}
	}
}

// wrong is what New must answer, by another hand: each window's wrongs are written down in the order of the document, and the first one is taken.
func wrong(frame int, l []api.Window) (api.Errno, int) {
	if !(1 <= frame && frame <= latest) {
		return api.ErrRange, -1
	}
	if len(l) >= 33 {
		return api.ErrLimit, -1
	}
	for k, w := range l {
		var all []api.Errno
		if !(w.From < w.To) {
			all = append(all, api.ErrArg)
		}
		if k == 0 && w.From < 0 || k > 0 && w.From < l[k-1].To {
			all = append(all, api.ErrOrder)
		}
		if frame < w.To {
			all = append(all, api.ErrRange)
		}
		if w.Part != 0 && w.Part != 1 && w.Part != 2 && w.Part != 3 && w.Part != 4 && w.Part != 5 {
			all = append(all, api.ErrMissing)
		}
		if len(all) > 0 {
			return all[0], k
		}
	}
	return api.OK, -1
}

// news checks New against wrong; the table, if there may be one.
func news(t *testing.T, frame int, l []api.Window) *part.Table {
	t.Helper()
	if e, place := wrong(frame, l); e != api.OK {
		unmade(t, frame, l, e, place)
		return nil
	}
	return made(t, frame, l...)
}

// walk is what At must tell, by another hand: it goes on tick by tick until what is there is over, or something is there.
func walk(frame int, l []api.Window, now int) (part, left int) {
	in := func(now int) int {
		return slices.IndexFunc(l, func(w api.Window) bool { return w.From <= now%frame && now%frame < w.To })
	}
	k := in(now)
	if k < 0 && len(l) == 0 {
		return -1, -1
	}
	for k < 0 && in(now+left) < 0 {
		left++
	}
	if k < 0 {
		return -1, left
	}
	// A window ends with the frame, though the next one's first may be the same again.
	for x := now % frame; x+left < frame && in(x+left) == k; {
		left++
	}
	return l[k].Part, left
}

// running is how many windows a time of the frame is in.
func running(l []api.Window, now int) (many int) {
	for _, w := range l {
		if w.From <= now && now < w.To {
			many++
		}
	}
	return many
}

// holds checks all that a table tells in its first three frames against walk, and that no two of its windows are at one time.
func holds(t *testing.T, x *part.Table, frame int, l []api.Window) {
	t.Helper()
	ran := map[int]int{}
	for now := range 3 * frame {
		p, left := walk(frame, l, now)
		at(t, x, now, p, left)
		if now >= frame {
			continue
		}
		ran[p]++
		if many := running(l, now); many > 1 || many == 1 != (p >= 0) {
			t.Errorf("at %d %d windows are there, and %d runs", now, many, p)
		}
	}
	for p := range parts {
		share(t, x, p, ran[p])
	}
	share(t, x, -1, 0) // though At tells -1 where none runs
	share(t, x, parts, 0)
	if t.Failed() {
		t.Fatalf("frame %d, %v", frame, l)
	}
}

// TestAllSmallTables goes through all tables of up to three windows with small numbers, wrong ones, too.
func TestAllSmallTables(t *testing.T) {
	var all, some []api.Window
	for from := -1; from <= 5; from++ {
		for to := -1; to <= 5; to++ {
			for _, p := range []int{-1, 0, 5, 6} {
				all = append(all, win(p, from, to))
			}
			if from < to && from >= 0 {
				some = append(some, win(2, from, to), win(3, from, to))
			}
		}
	}
	check := func(l ...api.Window) {
		for frame := range 6 {
			if x := news(t, frame, l); x != nil {
				holds(t, x, frame, l)
			}
		}
	}
	check()
	for _, a := range all {
		check(a)
		for _, b := range all {
			check(a, b)
		}
	}
	for _, a := range some {
		for _, b := range some {
			for _, c := range some {
				check(a, b, c)
			}
		}
	}
}

// 9.1: At

// TestExample: a frame of 10 with a window from 3 to 7: at 25 it has 2 yet; at 18 it is 5 until one begins.
func TestExample(t *testing.T) {
	x := made(t, 10, win(4, 3, 7))
	at(t, x, 25, 4, 2)
	at(t, x, 18, -1, 5)
	share(t, x, 4, 4)
}

// TestAtEdges: at a window's From, one ahead of it, one ahead of its To, at its To; at the end of a frame, and in the next one.
func TestAtEdges(t *testing.T) {
	x := made(t, 20, win(1, 3, 7), win(0, 7, 8), win(5, 10, 19))
	for _, frame := range []int{0, 20, 40, 20 << 30} {
		for _, c := range [][3]int{
			{0, -1, 3}, {2, -1, 1}, {3, 1, 4}, {6, 1, 1}, // ahead of the first one, and in it
			{7, 0, 1}, {8, -1, 2}, {9, -1, 1}, // one that touches it
			{10, 5, 9}, {18, 5, 1}, {19, -1, 4}, {20, -1, 3}, {22, -1, 1}, {23, 1, 4}, // the last one, and the next frame's first one
		} {
			at(t, x, frame+c[0], c[1], c[2])
		}
	}
}

// TestAtWindowsThatTouch: each lasts until its own To, though the next one is the same partition's, in this frame or the next one.
func TestAtWindowsThatTouch(t *testing.T) {
	x := made(t, 10, win(2, 0, 4), win(2, 4, 7), win(3, 7, 9), win(2, 9, 10))
	for _, frame := range []int{0, 10, 100} {
		for now, want := range [][2]int{{2, 4}, {2, 3}, {2, 2}, {2, 1}, {2, 3}, {2, 2}, {2, 1}, {3, 2}, {3, 1}, {2, 1}} {
			at(t, x, frame+now, want[0], want[1])
		}
	}
	share(t, x, 2, 8)
	x = made(t, 3, win(0, 0, 3))
	for now := range 12 {
		at(t, x, now, 0, 3-now%3)
	}
}

// TestAtNextFrame: behind the last window it is until the next frame's first one, be that one at its beginning, or later.
func TestAtNextFrame(t *testing.T) {
	for _, c := range []struct{ from, now, left int }{{0, 6, 4}, {0, 9, 1}, {1, 6, 5}, {1, 9, 2}, {1, 10, 1}, {5, 6, 9}, {5, 9, 6}, {5, 10, 5}, {5, 14, 1}} {
		x := made(t, 10, win(0, c.from, 6))
		at(t, x, c.now, -1, c.left)
		at(t, x, c.now+c.left, 0, 6-c.from)
	}
	x := made(t, 10, win(3, 1, 2), win(4, 5, 6))
	at(t, x, 8, -1, 3) // until the first one, not the last one
	at(t, x, 11, 3, 1)
}

func TestAtBounds(t *testing.T) {
	x := made(t, 7, win(0, 0, 3), win(5, 4, 7)) // latest is 2 of a frame
	notAt(t, x, -1)
	at(t, x, 0, 0, 3)
	at(t, x, latest-2, 0, 3)
	at(t, x, latest-1, 0, 2)
	at(t, x, latest, 0, 1)
	notAt(t, x, latest+1)
	for _, now := range append(append([]int{}, belowAll...), aboveAll...) {
		notAt(t, x, now)
		notAt(t, made(t, latest), now)
		notAt(t, made(t, 1, win(0, 0, 1)), now)
	}
	at(t, x, 4, 5, 3) // nothing changed
	share(t, x, 5, 3)
}

// TestAtOfGreatFrames: what lasts, or begins, beyond MaxTime is told all the same.
func TestAtOfGreatFrames(t *testing.T) {
	x := made(t, latest, win(0, 0, latest))
	at(t, x, 0, 0, latest)
	at(t, x, 1, 0, latest-1)
	at(t, x, latest-1, 0, 1)
	at(t, x, latest, 0, latest)
	share(t, x, 0, latest)

	x = made(t, latest, win(1, latest-1, latest))
	at(t, x, 0, -1, latest-1)
	at(t, x, latest-2, -1, 1)
	at(t, x, latest-1, 1, 1)
	at(t, x, latest, -1, latest-1)
	share(t, x, 1, 1)

	x = made(t, latest, win(2, latest-2, latest-1))
	at(t, x, latest-1, -1, latest-1)
	at(t, x, latest, -1, latest-2)

	x = made(t, latest-1, win(3, 0, 1), win(4, 1, latest-1))
	at(t, x, 0, 3, 1)
	at(t, x, 1, 4, latest-2)
	at(t, x, latest-2, 4, 1)
	at(t, x, latest-1, 3, 1)
	at(t, x, latest, 4, latest-2)
	share(t, x, 4, latest-2)
}

// 9.1: Share

func TestShare(t *testing.T) {
	x := made(t, 50, win(1, 0, 3), win(4, 5, 9), win(1, 9, 10), win(0, 12, 20), win(1, 20, 25), win(5, 49, 50))
	for p, want := range []int{8, 9, 0, 0, 4, 1} {
		share(t, x, p, want)
	}
	for _, p := range append(append([]int{parts, 256, 257, 1 << 32, 1<<32 + 1, latest}, belowAll...), aboveAll...) {
		share(t, x, p, 0) // no partition has such a number
	}
	at(t, x, 0, 1, 3)
}

// TestShareOfTouching: as many windows as there may be, in turn.
func TestShareOfTouching(t *testing.T) {
	x := made(t, most, touching(most)...)
	for p, want := range []int{6, 6, 5, 5, 5, 5} {
		share(t, x, p, want)
	}
	x = made(t, latest, win(0, 0, latest/2), win(0, latest/2, latest))
	share(t, x, 0, latest)
	share(t, x, 1, 0)
}

// 9.1: what is a table's own

// TestWindowsAreTheCallers: a list reads as it did, and so does what stands behind its length; a change of it behind New changes no answer.
func TestWindowsAreTheCallers(t *testing.T) {
	whole := []api.Window{win(1, 3, 7), win(0, 7, 8), win(5, 10, 19), win(2, 19, 20), win(7, 70, 7)}
	was := slices.Clone(whole)
	l := whole[:3]
	x := made(t, 20, l...)
	holds(t, x, 20, was[:3])
	notAt(t, x, -1)
	if !slices.Equal(whole, was) {
		t.Errorf("a table wrote into its list: %v, was %v", whole, was)
	}
	y := made(t, 20, whole[:4]...)
	for k := range whole {
		whole[k] = win(4, k, k+1)
	}
	holds(t, x, 20, was[:3])
	holds(t, y, 20, was[:4])
	_ = append(l[:0], win(3, 0, 20))
	holds(t, x, 20, was[:3])
	clear(whole)
	holds(t, x, 20, was[:3])
	holds(t, y, 20, was[:4])
}

// TestTablesAreApart: what one table is made of is nothing to another one.
func TestTablesAreApart(t *testing.T) {
	a := []api.Window{win(0, 0, 2)}
	b := []api.Window{win(1, 1, 3)}
	x, y := made(t, 3, a...), made(t, 4, b...)
	unmade(t, 1, a, api.ErrRange, 0)
	unmade(t, 4, append(b, b...), api.ErrOrder, 1)
	holds(t, x, 3, a)
	holds(t, y, 4, b)
	holds(t, x, 3, a)
}

// What is to be true of the whole, 6: one partition at a time

// table is one that is drawn, and may be: a frame, and windows in it.
func (d *die) table() (frame int, l []api.Window) {
	for x := d.n(9); len(l) < most && d.n(30) > 0; x += d.n(5) / 2 {
		w := win(d.n(parts), x, x+1+d.n(6))
		l = append(l, w)
		x = w.To
	}
	frame = 1 + d.n(5)
	if len(l) > 0 {
		frame = l[len(l)-1].To + d.n(7)/2
	}
	return frame, l
}

func TestDrawnTables(t *testing.T) {
	d := die(9)
	for range 400 {
		frame, l := d.table()
		holds(t, news(t, frame, l), frame, l)
	}
}

// TestOnePartitionAtATime: what runs at a time runs on, tick by tick, until it is told to be over, and nothing else does meanwhile; each partition runs for its Share of each frame.
func TestOnePartitionAtATime(t *testing.T) {
	d := die(11)
	for range 400 {
		frame, l := d.table()
		x := made(t, frame, l...)
		ran := [parts]int{}
		last, yet := 0, 0
		for now := range 4 * frame {
			p, left, err := x.At(now)
			if err != nil {
				t.Fatalf("frame %d, %v: At(%d): %v", frame, l, now, err)
			}
			if yet > 0 && (p != last || left != yet) {
				t.Fatalf("frame %d, %v: At(%d): %d, %d, though it was %d for %d yet", frame, l, now, p, left, last, yet)
			}
			if len(l) > 0 && left < 1 {
				t.Fatalf("frame %d, %v: At(%d): %d, %d: that is over", frame, l, now, p, left)
			}
			if p >= 0 {
				ran[p]++
			}
			last, yet = p, left-1
		}
		together := 0
		for p, ticks := range ran {
			share(t, x, p, ticks/4)
			together += x.Share(p)
		}
		if together > frame {
			t.Fatalf("frame %d, %v: all partitions together have %d", frame, l, together)
		}
	}
}

// TestAFrameLater: what is told at a time is told a frame later, as far as MaxTime.
func TestAFrameLater(t *testing.T) {
	d := die(13)
	for range 300 {
		frame, l := d.table()
		scale := 1
		if d.n(2) == 0 {
			scale = 1 << d.n(30) // great frames, too
			for k := range l {
				l[k].From *= scale
				l[k].To *= scale
			}
		}
		frame *= scale
		x := made(t, frame, l...)
		for range 30 {
			now := d.n(frame)
			p, left, err := x.At(now)
			if err != nil {
				t.Fatalf("At(%d): %v", now, err)
			}
			for _, frames := range []int{1, 2, 3 + d.n(1000), (latest - now) / frame} {
				if later := now + frames*frame; later <= latest {
					at(t, x, later, p, left)
				}
			}
		}
		if t.Failed() {
			t.Fatalf("frame %d, %v", frame, l)
		}
	}
}

// TestAskedAgain: a table answers alike again and again, whatever was asked between.
func TestAskedAgain(t *testing.T) {
	d := die(15)
	for range 100 {
		frame, l := d.table()
		x := made(t, frame, l...)
		tell := func(now int) string {
			p, left, err := x.At(now)
			return fmt.Sprint(p, left, err, x.Share(now%parts))
		}
		nows := []int{0, frame - 1, frame, -1, latest, latest + 1, d.n(1000)}
		var first []string
		for _, now := range nows {
			first = append(first, tell(now))
		}
		for range 20 {
			if k := d.n(len(nows)); tell(nows[k]) != first[k] {
				t.Fatalf("frame %d, %v: at %d now %s, first %s", frame, l, nows[k], tell(nows[k]), first[k])
			}
		}
	}
}
