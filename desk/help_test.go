package desk_test

import (
	"fmt"
	"math"
	"slices"
	"strings"
	"testing"

	"metronome/desk"
)

const (
	least    = math.MinInt64
	greatest = math.MaxInt64
)

// Bounds by another hand.
const (
	mostText  = 20000
	quarter   = 1 << 40 / 4 // how far from 0 a clock may be
	mostSlots = 32
	mostLinks = 8
	mostData  = 40
)

// helpAnswer is what `help` tells, as the document writes it.
const helpAnswer = "bytes clear clocks drift help link local lose members midpoint mode plan put read real receive round slot spread start"

// form is what the document's table says of a line: what stands behind its first word (n: a number, w: any word, +: more of the one ahead), when it may be told, and a line of that kind that has no error behind four, or ahead of its start.
type form struct {
	name, behind string
	when         string
	line         string
}

const (
	anyTime    = ""
	notStarted = "ErrState, if there is a cluster"
	started    = "ErrState, if there is none"
)

var forms = []form{
	{"plan", "nnnnnn", notStarted, "plan 4 1 20 2 2 200"},
	{"slot", "nnn", notStarted, "slot 3 170 171"},
	{"link", "nnnn", notStarted, "link 1 1 1 1"},
	{"bytes", "", anyTime, "bytes"},
	{"start", "n+", notStarted, "start 8 0 4 10 1000"},
	{"put", "nw", started, "put 0 a"},
	{"receive", "nn", started, "receive 1 0"},
	{"lose", "nnn", started, "lose 0 1 2"},
	{"read", "nnn", started, "read 0 1 2"},
	{"drift", "n+", started, "drift 1 -1"},
	{"mode", "n+", started, "mode 0 0 0 2"},
	{"round", "", started, "round"},
	{"clocks", "", started, "clocks"},
	{"spread", "", started, "spread"},
	{"members", "n", started, "members 3"},
	{"midpoint", "n+", anyTime, "midpoint 1 3 9 -4 7"},
	{"local", "nnnnn", anyTime, "local 10 100 2 1 13"},
	{"real", "nnnnn", anyTime, "real 10 100 2 1 105"},
	{"clear", "", anyTime, "clear"},
	{"help", "", anyTime, "help"},
}

// isLine says whether a word is one of the table's.
func isLine(word string) bool {
	return slices.ContainsFunc(forms, func(f form) bool { return f.name == word })
}

// ways is in which states a line may be told: ahead of it stands a plan, or a cluster.
func (f form) ways() (l []string) {
	if f.when != started {
		l = append(l, four)
	}
	if f.when != notStarted {
		l = append(l, four+"start 8 0 4 10 1000\nput 0 x\nround\n")
	}
	return l
}

// four is a plan of four nodes, of which one may be faulty, each with a slot; a link goes from node 0 to the nodes 1 and 2.
const four = `plan 4 1 20 2 2 200
slot 0 10 20
slot 1 50 60
slot 2 90 100
slot 3 130 140
link 0 6 100 4
`

// three is a plan of three nodes, none of which is faulty, each with a slot; started.
const three = `plan 3 0 10 1 1 100
slot 0 0 5
slot 1 20 25
slot 2 40 45
start 0 0 0 0
`

// edge is a plan of two nodes, each with a slot, whose clocks are at the end of what may be; started.
const edge = `plan 2 0 9 1 1 100
slot 0 0 5
slot 1 20 25
link 0 2 1 1
start 0 274877906944 274877906944
`

// die gives numbers that look drawn, the same each time.
type die uint64

func (d *die) n(most int) int {
	*d = *d*6364136223846793005 + 1442695040888963407
	return int(uint64(*d>>20) % uint64(most))
}

// any is one of some texts.
func (d *die) any(l ...string) string {
	return l[d.n(len(l))]
}

// rows are a text's lines without those of the text ahead of it.
func rows(t *testing.T, ahead, text string) []string {
	t.Helper()
	all := desk.Session(ahead + text)
	first := desk.Session(ahead)
	if ahead == "" {
		first = "" // the empty text is a line of its own
	}
	rest, ok := strings.CutPrefix(all, first)
	if !ok || !strings.HasSuffix(rest, "\n") {
		t.Fatalf("Session(%q): %q, want %q, and more behind it, and a line feed", ahead+text, all, first)
	}
	return strings.Split(strings.TrimSuffix(rest, "\n"), "\n")
}

// is checks what a text is answered, behind another one that ends with a line feed.
func is(t *testing.T, ahead, text string, want ...string) {
	t.Helper()
	got := rows(t, ahead, text)
	if fmt.Sprintf("%q", got) != fmt.Sprintf("%q", want) {
		t.Errorf("%.200q, behind %.300q: %.300q, want %.300q", text, ahead, got, want)
	}
}

// script checks a text line by line, behind another one: each line of it has what it is answered behind ' => '.
func script(t *testing.T, ahead, lines string) {
	t.Helper()
	var text strings.Builder
	var want []string
	for line := range strings.SplitSeq(strings.Trim(lines, "\n"), "\n") {
		in, out, ok := strings.Cut(line, " => ")
		if !ok {
			t.Fatalf("%q is no line of a script", line)
		}
		text.WriteString(in + "\n")
		want = append(want, out)
	}
	got := rows(t, ahead, text.String())
	if len(got) != len(want) {
		t.Fatalf("%q: %d lines, want %d: %q", text.String(), len(got), len(want), got)
	}
	for i, line := range strings.Split(strings.TrimSuffix(text.String(), "\n"), "\n") {
		if got[i] != want[i] {
			t.Errorf("line %d, %q: %q, want %q", i, line, got[i], want[i])
		}
	}
}

// swapped is a line with another word at a place.
func swapped(line string, place int, word string) string {
	l := strings.Fields(line)
	l[place] = word
	return strings.Join(l, " ")
}
