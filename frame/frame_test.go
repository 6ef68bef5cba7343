package frame_test

import (
	"bytes"
	"fmt"
	"math"
	"slices"
	"strings"
	"testing"

	"metronome/api"
	"metronome/frame"
	"metronome/plain"
)

const (
	least    = math.MinInt
	greatest = math.MaxInt
)

// divided is the sum by another hand than the program's: the bits, the first 16 of them turned, and 16 noughts behind them are divided by 1 0001 0000 0010 0001 as one does it on paper.
func divided(b []byte) int {
	bits := make([]int, 8*len(b)+16)
	for i := range 8 * len(b) {
		bits[i] = int(b[i/8]) >> (7 - i%8) & 1
	}
	for i := range 16 {
		bits[i] ^= 1
	}
	for i := range 8 * len(b) {
		if bits[i] == 1 {
			for _, k := range []int{0, 4, 11, 16} {
				bits[i+k] ^= 1
			}
		}
	}
	n := 0
	for _, bit := range bits[8*len(b):] {
		n = 2*n + bit
	}
	return n
}

// sealed are bytes with the right sum behind them.
func sealed(b ...byte) []byte {
	n := divided(b)
	return append(slices.Clone(b), byte(n/256), byte(n%256))
}

// written is a frame that may be, in bytes, by another hand than the program's.
func written(f frame.Frame) []byte {
	b := []byte{byte(f.Node), byte(f.Slot), byte(f.Members / 256), byte(f.Members % 256), byte(f.Link + 1)}
	if f.Link >= 0 {
		b = append(append(b, byte(f.Seq), byte(len(f.Data))), f.Data...)
	}
	return sealed(b...)
}

// spare are bytes with others behind their length, and these others.
func spare(b []byte) (list, behind []byte) {
	all := append(slices.Clone(b), "what lies behind"...)
	return all[:len(b)], all[len(b):]
}

// sums checks Sum, and that it leaves bytes as they were.
func sums(t *testing.T, b []byte, want int) {
	t.Helper()
	given, behind := spare(b)
	if n := frame.Sum(given); n != want {
		t.Errorf("Sum(%.40x), of %d bytes: %d, want %d", b, len(b), n, want)
	}
	if !bytes.Equal(given, b) || string(behind) != "what lies behind" {
		t.Errorf("Sum(%.40x): the bytes read otherwise afterwards", b)
	}
}

// writes checks that Encode writes a frame so, in memory of its own.
func writes(t *testing.T, f frame.Frame, want []byte) {
	t.Helper()
	b, err := frame.Encode(f)
	if err != nil || !bytes.Equal(b, want) {
		t.Errorf("Encode(%#v): %x, %v, want %x", f, b, err, want)
	}
	again, _ := frame.Encode(f)
	clear(b[:cap(b)])
	if !bytes.Equal(again, want) {
		t.Errorf("Encode(%#v): two answers share memory", f)
	}
}

// wrong checks that Encode tells ErrArg, at no place, and no bytes beside it.
func wrong(t *testing.T, f frame.Frame) {
	t.Helper()
	b, err := frame.Encode(f)
	if e, at := plain.Place(err); e != api.ErrArg || at != -1 || b != nil {
		t.Errorf("Encode(%#v): %x, error %d at %d, want none, error %d", f, b, e, at, api.ErrArg)
	}
}

// reads checks that Decode reads a frame, leaves the bytes as they were, and keeps none of them.
func reads(t *testing.T, b []byte, want frame.Frame) {
	t.Helper()
	given, behind := spare(b)
	f, err := frame.Decode(given)
	if err != nil || f != want {
		t.Errorf("Decode(%x): %#v, %v, want %#v", b, f, err, want)
	}
	if !bytes.Equal(given, b) || string(behind) != "what lies behind" {
		t.Errorf("Decode(%x): the bytes read otherwise afterwards", b)
	}
	clear(given)
	if err == nil && f != want {
		t.Errorf("Decode(%x) keeps the bytes it was given", b)
	}
}

// refuses checks that Decode tells ErrForm, at no place, and no frame beside it.
func refuses(t *testing.T, name string, b []byte) {
	t.Helper()
	given, behind := spare(b)
	f, err := frame.Decode(given)
	if e, at := plain.Place(err); e != api.ErrForm || at != -1 || f != (frame.Frame{}) {
		t.Errorf("%s: Decode(%.60x), of %d bytes: %#v, error %d at %d, want none, error %d", name, b, len(b), f, e, at, api.ErrForm)
	}
	if !bytes.Equal(given, b) || string(behind) != "what lies behind" {
		t.Errorf("%s: Decode(%.60x): the bytes read otherwise afterwards", name, b)
	}
}

// goes checks a frame that may be: there and back.
func goes(t *testing.T, f frame.Frame) {
	t.Helper()
	b := written(f)
	writes(t, f, b)
	reads(t, b, f)
}

// die gives numbers that look drawn, the same each time.
type die uint64

func (d *die) n(most int) int {
	*d = *d*6364136223846793005 + 1442695040888963407
	return int(uint64(*d>>33) % uint64(most))
}

func (d *die) bytes(n int) []byte {
	b := make([]byte, n)
	for i := range b {
		b[i] = byte(d.n(256))
	}
	return b
}

// drawn is a frame that may be.
func drawn(d *die) frame.Frame {
	f := frame.Frame{Node: d.n(api.MaxNodes), Slot: d.n(api.MaxSlots), Members: d.n(1 << api.MaxNodes), Link: d.n(api.MaxLinks+1) - 1}
	if f.Link >= 0 {
		f.Seq, f.Data = d.n(256), string(d.bytes(d.n(api.MaxData+1)))
	}
	return f
}

// samples are frames of every length, and some drawn ones.
func samples() []frame.Frame {
	l := []frame.Frame{{Link: -1}, {Node: 15, Slot: 31, Members: 65535, Link: -1}, {Node: 3, Slot: 17, Members: 0x1234, Link: -1}}
	d := die(5)
	for n := range api.MaxData + 1 {
		l = append(l, frame.Frame{Node: d.n(16), Slot: d.n(32), Members: d.n(65536), Link: d.n(8), Seq: d.n(256), Data: string(d.bytes(n))})
	}
	for range 20 {
		l = append(l, drawn(&d))
	}
	return l
}

func TestSumByHand(t *testing.T) {
	if frame.Sum(nil) != 65535 {
		t.Errorf("Sum(nil): %d, want 65535", frame.Sum(nil))
	}
	for _, c := range []struct {
		text string
		want int
	}{
		{"123456789", 10673}, {"", 0xffff},
		{"A", 0xb915}, {"\x00", 0xe1f0}, {"\x00\x00", 0x1d0f}, {"\x01", 0xf1d1}, {"\x80", 0x7078},
		{"\xff", 0xff00}, {"\xff\xff", 0}, {"\xff\xff\xff", 0x1ef0},
		{strings.Repeat("A", 256), 0xea0b}, {strings.Repeat("\x00", 40), 0x85d9},
	} {
		sums(t, []byte(c.text), c.want)
	}
}

func TestSumDivided(t *testing.T) {
	for c := range 256 {
		sums(t, []byte{byte(c)}, divided([]byte{byte(c)}))
		sums(t, []byte{0xff, 0xff, byte(c)}, divided([]byte{0xff, 0xff, byte(c)}))
	}
	d := die(7)
	for n := range 300 {
		b := d.bytes(n)
		sums(t, b, divided(b))
		// Of bytes with their sum behind them nothing is left.
		sums(t, sealed(b...), 0)
	}
	long := d.bytes(100_000)
	sums(t, long, divided(long))
}

func TestByHand(t *testing.T) {
	for _, c := range []struct {
		f frame.Frame
		b []byte
	}{
		{frame.Frame{Link: -1}, []byte{0, 0, 0, 0, 0, 0x11, 0x0c}},
		{frame.Frame{Node: 3, Slot: 17, Members: 0x1234, Link: -1}, []byte{3, 17, 0x12, 0x34, 0, 0x76, 0x9f}},
		{frame.Frame{Node: 15, Slot: 31, Members: 65535, Link: -1}, []byte{15, 31, 255, 255, 0, 0x77, 0x20}},
		{frame.Frame{Node: 3, Slot: 17, Members: 0x1234, Link: 5, Seq: 200, Data: "a\x00\xff"}, []byte{3, 17, 0x12, 0x34, 6, 200, 3, 'a', 0, 255, 0x57, 0x71}},
		{frame.Frame{Node: 2, Slot: 5, Members: 7, Link: 0}, []byte{2, 5, 0, 7, 1, 0, 0, 0xb4, 0x31}},
		{frame.Frame{Node: 15, Slot: 31, Members: 65535, Link: 7, Seq: 255, Data: strings.Repeat("z", 40)}, []byte("\x0f\x1f\xff\xff\x08\xff\x28" + strings.Repeat("z", 40) + "\xdb\xaa")},
	} {
		writes(t, c.f, c.b)
		reads(t, c.b, c.f)
	}
}

func TestDrawn(t *testing.T) {
	d := die(3)
	for range 2000 {
		goes(t, drawn(&d))
	}
	for _, f := range samples() {
		goes(t, f)
	}
}

// bound is one number of a frame, and from where to where it may be there.
type bound struct {
	name        string
	set         func(f *frame.Frame, n int)
	least, most int
}

var bounds = []bound{
	{"Node", func(f *frame.Frame, n int) { f.Node = n }, 0, 15},
	{"Slot", func(f *frame.Frame, n int) { f.Slot = n }, 0, 31},
	{"Members", func(f *frame.Frame, n int) { f.Members = n }, 0, 65535},
	{"Link, a message", func(f *frame.Frame, n int) { f.Link, f.Seq, f.Data = n, 9, "abc" }, 0, 7},
	{"Link, a message without bytes", func(f *frame.Frame, n int) { f.Link, f.Seq, f.Data = n, 9, "" }, 0, 7},
	{"Link, a message of number 0", func(f *frame.Frame, n int) { f.Link, f.Seq, f.Data = n, 0, "abc" }, 0, 7},
	{"Link, nothing beside", func(f *frame.Frame, n int) { f.Link, f.Seq, f.Data = n, 0, "" }, -1, 7},
	{"Seq", func(f *frame.Frame, n int) { f.Link, f.Seq, f.Data = 2, n, "abc" }, 0, 255},
	{"Seq, without bytes", func(f *frame.Frame, n int) { f.Link, f.Seq, f.Data = 0, n, "" }, 0, 255},
	{"Seq, no link", func(f *frame.Frame, n int) { f.Link, f.Seq, f.Data = -1, n, "" }, 0, 0},
	{"Seq, no link, bytes", func(f *frame.Frame, n int) { f.Link, f.Seq, f.Data = -1, n, "a" }, 1, 0},
}

// TestBounds holds each number at its ends, beyond them, and where it comes round to one that may be, were it cut to some bits.
func TestBounds(t *testing.T) {
	for _, b := range bounds {
		for _, start := range []frame.Frame{
			{Link: -1},
			{Node: 7, Slot: 20, Members: 300, Link: -1},
			{Node: 15, Slot: 31, Members: 65535, Link: 7, Seq: 255, Data: strings.Repeat("d", api.MaxData)},
		} {
			for _, n := range []int{
				least, least + 1, -1 << 32, -1<<32 + 1, -65536, -65535, -256, -255, -2, b.least - 1, b.least, b.least + 1, b.most - 1, b.most, b.most + 1,
				16, 32, 255, 256, 257, 65535, 65536, 65537, 1 << 32, 1<<32 + 1, 1 << 62, greatest - 1, greatest,
			} {
				f := start
				b.set(&f, n)
				if b.least <= n && n <= b.most {
					goes(t, f)
				} else {
					wrong(t, f)
				}
			}
		}
	}
}

func TestAllOfANumber(t *testing.T) {
	for n := range 256 {
		goes(t, frame.Frame{Node: n % 16, Slot: n % 32, Members: 257 * n, Link: n % 8, Seq: n, Data: string([]byte{byte(n)})})
	}
	for k := range api.MaxNodes {
		goes(t, frame.Frame{Node: k, Members: 1 << k, Link: -1})
	}
}

func TestDataLengths(t *testing.T) {
	for n := range api.MaxData + 1 {
		goes(t, frame.Frame{Link: 3, Seq: 1, Data: strings.Repeat("\xff", n)})
		goes(t, frame.Frame{Link: 0, Seq: 0, Data: strings.Repeat("\x00", n)})
	}
	for _, n := range []int{41, 42, 255, 256, 257, 256 + 40, 512, 65536, 100_000} {
		wrong(t, frame.Frame{Link: 3, Seq: 1, Data: strings.Repeat("a", n)})
		wrong(t, frame.Frame{Link: -1, Data: strings.Repeat("a", n)})
	}
	for n := 1; n <= api.MaxData; n++ {
		wrong(t, frame.Frame{Link: -1, Data: strings.Repeat("\x00", n)})
	}
}

func TestManyWrong(t *testing.T) {
	for _, n := range []int{least, -2, 1 << 16, greatest} {
		wrong(t, frame.Frame{Node: n, Slot: n, Members: n, Link: n, Seq: n, Data: strings.Repeat("a", 41)})
	}
	wrong(t, frame.Frame{Node: 16, Slot: 32, Members: 65536, Link: -1})
	wrong(t, frame.Frame{Link: -1, Seq: 1, Data: "a"})
	wrong(t, frame.Frame{Link: -2, Seq: 0, Data: ""})
}

// TestTooFew holds bytes that are fewer than any frame's, with a right sum and without one.
func TestTooFew(t *testing.T) {
	if f, err := frame.Decode(nil); err != api.ErrForm || f != (frame.Frame{}) {
		t.Errorf("Decode(nil): %#v, %v", f, err)
	}
	for n := range 9 {
		for _, c := range []byte{0, 1, 8, 255} {
			refuses(t, "alike", bytes.Repeat([]byte{c}, n))
		}
	}
	for n := range 5 {
		refuses(t, "sealed", sealed(make([]byte, n)...))
	}
	// With a link there are a Seq and a length, too.
	refuses(t, "a link alone", sealed(1, 2, 0, 3, 4))
	refuses(t, "a link and Seq", sealed(1, 2, 0, 3, 4, 5))
	reads(t, sealed(1, 2, 0, 3, 4, 5, 0), frame.Frame{Node: 1, Slot: 2, Members: 3, Link: 3, Seq: 5})
}

func TestBeginningsAndEnds(t *testing.T) {
	for _, f := range samples() {
		b := written(f)
		for n := range b {
			refuses(t, "beginning", b[:n])
			refuses(t, "end", b[n+1:])
			// All but its sum, sealed, is the frame once more.
			if n != len(b)-2 {
				refuses(t, "beginning, sealed", sealed(b[:n]...))
			}
		}
		for _, more := range []string{"\x00", "\x01", "\xff", "\x00\x00", string(b[len(b)-2:]), string(b), strings.Repeat("\x00", 50)} {
			refuses(t, "behind", append(slices.Clone(b), more...))
			refuses(t, "behind, sealed", sealed(append(slices.Clone(b), more...)...))
			refuses(t, "ahead", append([]byte(more), b...))
		}
		// A message behind a frame that says it has none, and the other way round.
		if f.Link == -1 {
			refuses(t, "no link, nothing", sealed(append(slices.Clone(b[:5]), 0, 0)...))
			refuses(t, "no link, a message", sealed(append(slices.Clone(b[:5]), 7, 2, 'a', 'b')...))
		}
	}
	d := die(11)
	refuses(t, "very many", d.bytes(1_000_000))
	refuses(t, "very many, sealed", sealed(make([]byte, 100_000)...))
}

// TestLengths holds every length that a message may be said to have against how many bytes it has.
func TestLengths(t *testing.T) {
	for _, has := range []int{0, 1, 2, 20, 39, 40, 41, 42, 255} {
		for says := range 256 {
			data := strings.Repeat("x", has)
			b := sealed([]byte("\x01\x02\x00\x03\x04\x05" + string([]byte{byte(says)}) + data)...)
			if says == has && has <= api.MaxData {
				reads(t, b, frame.Frame{Node: 1, Slot: 2, Members: 3, Link: 3, Seq: 5, Data: data})
			} else {
				refuses(t, fmt.Sprint("says ", says, ", has ", has), b)
			}
		}
	}
	// A length of one byte comes round at 256.
	refuses(t, "256 bytes, says 0", sealed(append([]byte{1, 2, 0, 3, 4, 5, 0}, make([]byte, 256)...)...))
	refuses(t, "257 bytes, says 1", sealed(append([]byte{1, 2, 0, 3, 4, 5, 1}, make([]byte, 257)...)...))
}

// TestRightSumOfNoFrame puts every byte into each place ahead of Data, with a right sum.
func TestRightSumOfNoFrame(t *testing.T) {
	for _, f := range []frame.Frame{{Node: 1, Slot: 2, Members: 0x304, Link: -1}, {Node: 5, Slot: 6, Members: 0x708, Link: 1, Seq: 9, Data: "abc"}, {Link: 0}} {
		whole := written(f)
		for place := range len(whole) - 2 {
			for c := range 256 {
				b := slices.Clone(whole[:len(whole)-2])
				b[place] = byte(c)
				g, ok := changed(f, place, c)
				if ok {
					reads(t, sealed(b...), g)
				} else {
					refuses(t, fmt.Sprint("byte ", place, " is ", c), sealed(b...))
				}
			}
		}
	}
}

// changed is a frame with another byte at a place, and whether it is one then.
func changed(f frame.Frame, place, c int) (frame.Frame, bool) {
	switch place {
	case 0:
		f.Node = c
		return f, c < 16
	case 1:
		f.Slot = c
		return f, c < 32
	case 2:
		f.Members = f.Members%256 + 256*c
		return f, true
	case 3:
		f.Members = f.Members/256*256 + c
		return f, true
	case 4:
		was := f.Link
		f.Link = c - 1
		return f, f.Link == was || was >= 0 && 1 <= c && c <= 8
	case 5:
		f.Seq = c
		return f, true
	case 6:
		return f, c == len(f.Data)
	}
	data := []byte(f.Data)
	data[place-7] = byte(c)
	f.Data = string(data)
	return f, true
}

// TestSums puts every other sum behind a frame, and the right one the wrong way round.
func TestSums(t *testing.T) {
	b := written(frame.Frame{Node: 3, Slot: 17, Members: 0x1234, Link: 5, Seq: 200, Data: "ab"})
	n := len(b) - 2
	right := int(b[n])*256 + int(b[n+1])
	for sum := range 65536 {
		if sum != right {
			refuses(t, "sum", append(slices.Clone(b[:n]), byte(sum/256), byte(sum%256)))
		}
	}
	refuses(t, "the lesser first", append(slices.Clone(b[:n]), b[n+1], b[n]))
}

// turned are bytes with bits turned, counted from the first byte's greatest on.
func turned(b []byte, from int, pattern uint) []byte {
	c := slices.Clone(b)
	for i := range 16 {
		if at := from + i; pattern>>i&1 == 1 && at < 8*len(c) {
			c[at/8] ^= 0x80 >> (at % 8)
		}
	}
	return c
}

func TestBitsTurned(t *testing.T) {
	d := die(13)
	for _, f := range samples() {
		b := written(f)
		for from := range 8 * len(b) {
			refuses(t, "a bit", turned(b, from, 1))
			// The first one of the pattern is always turned, so that something is.
			for range 20 {
				refuses(t, "bits side by side", turned(b, from, uint(d.n(65536))|1))
			}
			refuses(t, "all of them", turned(b, from, 65535))
			refuses(t, "both ends", turned(b, from, 0x8001))
		}
	}
}

// TestEveryBurst turns bits within 16 in all the ways there are, of a short frame of each kind.
func TestEveryBurst(t *testing.T) {
	for _, f := range []frame.Frame{{Node: 3, Slot: 17, Members: 0x1234, Link: -1}, {Link: 0}} {
		b := written(f)
		for from := range 8 * len(b) {
			for pattern := uint(1); pattern < 65536; pattern += 2 {
				c := turned(b, from, pattern)
				if g, err := frame.Decode(c); err != api.ErrForm || g != (frame.Frame{}) {
					t.Fatalf("Decode(%x), of %x: %#v, %v", c, b, g, err)
				}
			}
		}
	}
}

// TestDrawnBytes: what Decode takes, Encode writes just so, whatever it is given.
func TestDrawnBytes(t *testing.T) {
	d := die(17)
	taken := 0
	for range 200_000 {
		b := d.bytes(d.n(60))
		for i, most := range []int{20, 40, 256, 256, 10, 256, 45} {
			if i < len(b) {
				b[i] = byte(d.n(most))
			}
		}
		if len(b) > 6 && d.n(2) == 0 {
			b[6] = byte(len(b) - 7)
		}
		b = sealed(b...)
		f, err := frame.Decode(b)
		if err != nil {
			if err != api.ErrForm || f != (frame.Frame{}) {
				t.Fatalf("Decode(%x): %#v, %v", b, f, err)
			}
			continue
		}
		taken++
		if again, err := frame.Encode(f); err != nil || !bytes.Equal(again, b) {
			t.Fatalf("Decode(%x): %#v, which is written %x, %v", b, f, again, err)
		}
	}
	if taken < 10_000 {
		t.Errorf("only %d of the drawn ones are frames", taken)
	}
}
