package plan_test

import (
	"bytes"
	"encoding/binary"
	"reflect"
	"slices"
	"testing"

	"metronome/api"
	"metronome/plain"
	"metronome/plan"
)

// numbers are those of a plan, in the order in which they are written.
func numbers(p api.Plan) []int {
	l := []int{p.Nodes, p.Faulty, p.Skew, p.Jitter, p.Drift, p.Round, len(p.Slots)}
	for _, s := range p.Slots {
		l = append(l, s.Node, s.From, s.To)
	}
	l = append(l, len(p.Links))
	for _, k := range p.Links {
		l = append(l, k.From, k.To, k.Bag, k.Queue)
	}
	l = append(l, p.Frame, len(p.Windows))
	for _, w := range p.Windows {
		l = append(l, w.Part, w.From, w.To)
	}
	return l
}

// written are numbers in bytes, by another hand than the program's.
func written(l ...int) []byte {
	var b []byte
	for _, n := range l {
		b = binary.AppendUvarint(b, uint64(n))
	}
	return b
}

// refuses checks that Decode tells an error, and no plan beside it.
func refuses(t *testing.T, name string, b []byte, want api.Errno, place int) {
	t.Helper()
	kept := slices.Clone(b)
	p, err := plan.Decode(b)
	if e, at := plain.Place(err); e != want || at != place {
		t.Errorf("%s: Decode(%x): error %d at %d, want %d at %d", name, b, e, at, want, place)
	}
	if !reflect.DeepEqual(p, api.Plan{}) {
		t.Errorf("%s: Decode(%x): %+v beside an error", name, b, p)
	}
	if !bytes.Equal(b, kept) {
		t.Errorf("%s: the bytes read otherwise afterwards: %x, were %x", name, b, kept)
	}
}

// reads checks that Decode reads a plan, and that it is the caller's.
func reads(t *testing.T, name string, b []byte, want api.Plan) {
	t.Helper()
	kept := slices.Clone(b)
	p, err := plan.Decode(b)
	if e, at := plain.Place(err); e != api.OK || at != whole {
		t.Errorf("%s: Decode(%x): error %d at %d", name, b, e, at)
	}
	if !plain.Same(p, want) {
		t.Errorf("%s: Decode(%x): %+v, want %+v", name, b, p, want)
	}
	if !bytes.Equal(b, kept) {
		t.Errorf("%s: the bytes read otherwise afterwards: %x, were %x", name, b, kept)
	}
	clear(b)
	if !plain.Same(p, want) {
		t.Errorf("%s: Decode keeps the bytes it was given", name)
	}
	copy(b, kept)
	again, _ := plan.Decode(b)
	clear(p.Slots)
	clear(p.Links)
	clear(p.Windows)
	if !plain.Same(again, want) {
		t.Errorf("%s: two answers of Decode share memory", name)
	}
}

func TestEncodeByHand(t *testing.T) {
	p := right()
	want := []byte{
		4, 1, 14, 1, 1, 103,
		3, 2, 3, 10, 0, 30, 40, 2, 58, 60,
		2, 1, 9, 50, 3, 0, 4, 128 + 104, 7, 2,
		90,
		3, 2, 5, 10, 0, 12, 20, 2, 20, 80,
	}
	b, err := plan.Encode(p)
	if err != nil || !bytes.Equal(b, want) {
		t.Errorf("Encode: %v, %v, want %v", b, err, want)
	}
	reads(t, "by hand", want, p)
	least := api.Plan{Nodes: 1, Skew: 1, Round: 1, Frame: 1}
	b, err = plan.Encode(least)
	if want := []byte{1, 0, 1, 0, 0, 1, 0, 0, 1, 0}; err != nil || !bytes.Equal(b, want) {
		t.Errorf("Encode of the least plan: %v, %v, want %v", b, err, want)
	}
}

// TestNumbersInBytes holds numbers around each one at which they need one byte more.
func TestNumbersInBytes(t *testing.T) {
	for _, n := range []int{1, 2, 126, 127, 128, 129, 255, 256, 1<<14 - 1, 1 << 14, 1<<14 + 1, 1<<21 - 1, 1 << 21, 1<<28 - 1, 1 << 28, 1<<35 - 1, 1 << 35, longest - 1, longest} {
		p := api.Plan{Nodes: 1, Skew: n, Round: n, Frame: n}
		b, err := plan.Encode(p)
		if want := written(numbers(p)...); err != nil || !bytes.Equal(b, want) {
			t.Errorf("Encode with %d: %v, %v, want %v", n, b, err, want)
		}
		reads(t, "round", b, p)
	}
}

// die gives numbers that look drawn, the same each time.
type die uint64

func (d *die) n(most int) int {
	*d = *d*6364136223846793005 + 1442695040888963407
	return int(uint64(*d>>33) % uint64(most))
}

// drawn is a plan that may be, of any size up to the bounds.
func drawn(d *die) api.Plan {
	p := api.Plan{Nodes: 1 + d.n(api.MaxNodes), Jitter: d.n(300), Drift: d.n(300)}
	p.Faulty = d.n((p.Nodes-1)/3 + 1)
	p.Skew = 2*(2*p.Jitter+1+2*p.Drift) - d.n(2)
	at := d.n(3) * d.n(1000)
	for range d.n(api.MaxSlots + 1) {
		to := at + 1 + d.n(1<<d.n(31))
		p.Slots = append(p.Slots, slot(d.n(p.Nodes), at, to))
		at = to + p.Skew + 1 + d.n(2)*d.n(1000)
	}
	p.Round = at + p.Skew + 1 + d.n(9)
	for range d.n(api.MaxLinks + 1) {
		from := d.n(p.Nodes)
		if to := d.n(1<<p.Nodes) &^ (1 << from); to > 0 {
			p.Links = append(p.Links, api.Link{From: from, To: to, Bag: 1 + d.n(1<<d.n(31)), Queue: 1 + d.n(api.MaxQueue)})
		}
	}
	at = d.n(3)
	for range d.n(api.MaxSlots + 1) {
		to := at + 1 + d.n(1<<d.n(31))
		p.Windows = append(p.Windows, window(d.n(api.MaxParts), at, to))
		at = to + d.n(2)*d.n(9)
	}
	p.Frame = at + 1 + d.n(9)
	return p
}

func TestEncodeDecode(t *testing.T) {
	d := die(2)
	plans := []api.Plan{right(), great()}
	for range 500 {
		plans = append(plans, drawn(&d))
	}
	for _, p := range plans {
		asks(t, "drawn", p, api.OK, whole)
		b, err := plan.Encode(p)
		if want := written(numbers(p)...); err != nil || !bytes.Equal(b, want) {
			t.Errorf("Encode(%+v): %x, %v, want %x", p, b, err, want)
		}
		reads(t, "drawn", b, p)
		clear(b)
		if again, _ := plan.Encode(p); !bytes.Equal(again, written(numbers(p)...)) {
			t.Errorf("two answers of Encode share memory")
		}
	}
}

// TestTooFewTooMany takes bytes off the end, and lays some there.
func TestTooFewTooMany(t *testing.T) {
	refuses(t, "nil", nil, api.ErrForm, whole)
	refuses(t, "none", []byte{}, api.ErrForm, whole)
	for _, p := range []api.Plan{right(), great()} {
		b := written(numbers(p)...)
		for n := range b {
			refuses(t, "ends too early", b[:n:n], api.ErrForm, whole)
			refuses(t, "ends too early, more behind it", b[:n], api.ErrForm, whole)
		}
		for _, more := range [][]byte{{0}, {1}, {127}, {128}, {255}, {128, 0}, {0, 0, 0}, b} {
			refuses(t, "goes on", slices.Concat(b, more), api.ErrForm, whole)
		}
	}
}

// TestNumbersOfAnotherForm puts a number of another form in each place where one stands.
func TestNumbersOfAnotherForm(t *testing.T) {
	wrong := [][]byte{
		{128, 0}, {129, 0}, {128, 128, 0}, {255, 0}, {255, 255, 255, 255, 255, 0}, // more bytes than it needs
		written(api.MaxTime + 1), written(api.MaxTime + 128), written(1<<42 - 1), written(1 << 42), written(1 << 62), written(greatest),
		{255, 255, 255, 255, 255, 255, 255, 255, 255, 1}, {128, 128, 128, 128, 128, 128, 128, 128, 128, 1}, {128, 128, 128, 128, 128, 128, 128, 128, 128, 2},
		{129, 128, 128, 128, 128, 128, 128, 128, 128, 128, 1}, {132, 128, 128, 128, 128, 128, 128, 128, 128, 128, 128, 128, 4}, // wrapped round it would be small
		bytes.Repeat([]byte{128}, 100), append(bytes.Repeat([]byte{128}, 100), 1),
	}
	for _, p := range []api.Plan{right(), great()} {
		l := numbers(p)
		for i, n := range l {
			ahead, behind := written(l[:i]...), written(l[i+1:]...)
			for _, w := range wrong {
				refuses(t, "another form", slices.Concat(ahead, w, behind), api.ErrForm, whole)
			}
			// The number itself in one byte more.
			long := written(n)
			long[len(long)-1] |= 128
			refuses(t, "a byte more", slices.Concat(ahead, long, []byte{0}, behind), api.ErrForm, whole)
		}
	}
}

// TestMaxTimeIsOfTheForm: up to MaxTime a number is of the form, and Check tells what is wrong; above, it isn't.
func TestMaxTimeIsOfTheForm(t *testing.T) {
	for _, c := range []struct {
		name  string
		at    int
		want  api.Errno
		place int
	}{
		{"Nodes", 0, api.ErrArg, whole}, {"Faulty", 1, api.ErrArg, whole},
		{"Skew", 2, api.ErrRange, whole}, {"Jitter", 3, api.ErrRange, whole}, {"Drift", 4, api.ErrRange, whole}, {"Round", 5, api.ErrRange, whole},
		{"slot 0's Node", 7, api.ErrMissing, 0}, {"slot 0's From", 8, api.ErrArg, 0}, {"slot 0's To", 9, api.ErrRange, 0},
		{"slot 2's Node", 13, api.ErrMissing, 2}, {"slot 2's From", 14, api.ErrArg, 2}, {"slot 2's To", 15, api.ErrRange, 2},
		{"link 0's From", 17, api.ErrMissing, 1000}, {"link 0's To", 18, api.ErrArg, 1000}, {"link 0's Bag", 19, api.ErrRange, 1000}, {"link 0's Queue", 20, api.ErrRange, 1000},
		{"link 1's From", 21, api.ErrMissing, 1001}, {"link 1's To", 22, api.ErrArg, 1001}, {"link 1's Bag", 23, api.ErrRange, 1001}, {"link 1's Queue", 24, api.ErrRange, 1001},
		{"Frame", 25, api.ErrRange, whole},
		{"window 0's Part", 27, api.ErrMissing, 2000}, {"window 0's From", 28, api.ErrArg, 2000}, {"window 0's To", 29, api.ErrRange, 2000},
		{"window 2's Part", 33, api.ErrMissing, 2002}, {"window 2's From", 34, api.ErrArg, 2002}, {"window 2's To", 35, api.ErrRange, 2002},
	} {
		l := numbers(right())
		l[c.at] = api.MaxTime
		refuses(t, c.name, written(l...), c.want, c.place)
		l[c.at] = api.MaxTime + 1
		refuses(t, c.name, written(l...), api.ErrForm, whole)
	}
}

// TestCounts: too many rows are of another form, whether they stand there or not; and that is told ahead of Check's errors.
func TestCounts(t *testing.T) {
	for _, c := range []struct {
		name                           string
		slots, links, windows          int // how many are told
		slotRows, linkRows, windowRows int // how many numbers stand there
		want                           api.Errno
		place                          int
	}{
		{name: "as many slots as may be", slots: 32, slotRows: 96, want: api.ErrArg, place: 0},
		{name: "one slot more", slots: 33, slotRows: 99, want: api.ErrForm, place: whole},
		{name: "one slot more, not there", slots: 33, want: api.ErrForm, place: whole},
		{name: "very many slots", slots: api.MaxTime, want: api.ErrForm, place: whole},
		{name: "as many links as may be", links: 8, linkRows: 32, want: api.ErrArg, place: 1000},
		{name: "one link more", links: 9, linkRows: 36, want: api.ErrForm, place: whole},
		{name: "one link more, not there", links: 9, want: api.ErrForm, place: whole},
		{name: "very many links", links: api.MaxTime, want: api.ErrForm, place: whole},
		{name: "as many windows as may be", windows: 32, windowRows: 96, want: api.ErrArg, place: 2000},
		{name: "one window more", windows: 33, windowRows: 99, want: api.ErrForm, place: whole},
		{name: "one window more, not there", windows: 33, want: api.ErrForm, place: whole},
		{name: "very many windows", windows: api.MaxTime, want: api.ErrForm, place: whole},
		{name: "as many of all as may be", slots: 32, slotRows: 96, links: 8, linkRows: 32, windows: 32, windowRows: 96, want: api.ErrArg, place: 0},
	} {
		// The rows are noughts: each one is wrong by itself, with ErrArg.
		b := written(slices.Concat(
			[]int{1, 0, 1, 0, 0, 1},
			[]int{c.slots}, make([]int, c.slotRows),
			[]int{c.links}, make([]int, c.linkRows),
			[]int{1},
			[]int{c.windows}, make([]int, c.windowRows),
		)...)
		refuses(t, c.name, b, c.want, c.place)
		b[0] = 0 // and no nodes: of what Check tells, that is first
		refuses(t, c.name+", no nodes", b, c.want, whole)
	}
	// Of a form that fails in the last byte nothing of Check is told.
	b := written(numbers(right())...)
	b[0] = 99
	refuses(t, "no such nodes", b, api.ErrArg, whole)
	refuses(t, "no such nodes, too short", b[:len(b)-1], api.ErrForm, whole)
	refuses(t, "no such nodes, too long", append(b, 0), api.ErrForm, whole)
}

// TestMaxPlan: no plan within the other bounds comes up to MaxPlan bytes, so what has as many, or more, is no plan's.
func TestMaxPlan(t *testing.T) {
	b := written(numbers(great())...)
	if len(b) > api.MaxPlan {
		t.Fatalf("the greatest plan has %d bytes", len(b))
	}
	reads(t, "the greatest plan", b, great())
	for _, size := range []int{api.MaxPlan - 1, api.MaxPlan, api.MaxPlan + 1, 100_000} {
		for _, fill := range []byte{0, 1, 127, 128, 255} {
			long := slices.Concat(b, bytes.Repeat([]byte{fill}, size-len(b)))
			refuses(t, "filled up", long, api.ErrForm, whole)
			refuses(t, "one byte", bytes.Repeat([]byte{fill}, size), api.ErrForm, whole)
		}
	}
}

// form says, by another way than the program's, whether bytes are such numbers; and which plan they are then.
func form(b []byte) (p api.Plan, ok bool) {
	if len(b) > api.MaxPlan {
		return p, false
	}
	var l []int
	for len(b) > 0 {
		n, size := binary.Uvarint(b)
		if size <= 0 || n > api.MaxTime || !bytes.Equal(b[:size], binary.AppendUvarint(nil, n)) {
			return p, false
		}
		l, b = append(l, int(n)), b[size:]
	}
	next := func() int {
		if len(l) == 0 {
			ok = false
			return 0
		}
		n := l[0]
		l = l[1:]
		return n
	}
	ok = true
	p.Nodes, p.Faulty, p.Skew, p.Jitter, p.Drift, p.Round = next(), next(), next(), next(), next(), next()
	n := next()
	for i := 0; ok && i < n; i++ {
		p.Slots = append(p.Slots, slot(next(), next(), next()))
	}
	n = next()
	for i := 0; ok && i < n; i++ {
		p.Links = append(p.Links, api.Link{From: next(), To: next(), Bag: next(), Queue: next()})
	}
	p.Frame = next()
	n = next()
	for i := 0; ok && i < n; i++ {
		p.Windows = append(p.Windows, window(next(), next(), next()))
	}
	ok = ok && len(l) == 0 && len(p.Slots) <= api.MaxSlots && len(p.Links) <= api.MaxLinks && len(p.Windows) <= api.MaxSlots
	return p, ok
}

// TestSpoiltBytes changes bytes of plans, and holds what Decode tells against form and Check.
func TestSpoiltBytes(t *testing.T) {
	d := die(7)
	told := map[api.Errno]int{}
	for range 4000 {
		b := written(numbers(drawn(&d))...)
		for range d.n(3) {
			b[d.n(len(b))] ^= 1 << d.n(8)
		}
		b = b[:len(b)-d.n(8)/7]
		want, ok := form(b)
		e, at := api.ErrForm, whole
		if ok {
			e, at = plain.Place(plan.Check(want))
		}
		told[e]++
		if e == api.OK {
			reads(t, "spoilt", b, want)
		} else {
			refuses(t, "spoilt", b, e, at)
		}
	}
	for _, e := range []api.Errno{api.OK, api.ErrArg, api.ErrRange, api.ErrForm, api.ErrMissing, api.ErrOrder, api.ErrFalse} {
		if told[e] == 0 {
			t.Errorf("error %d was never told: the test says nothing of it", e)
		}
	}
}
