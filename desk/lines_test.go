package desk_test

import (
	"fmt"
	"slices"
	"strings"
	"testing"
)

// 11.1: what each line does, and what answers it.

// TestSession: an ordinary one, with every line of the table; what is told was reckoned by hand.
func TestSession(t *testing.T) {
	script(t, "", `
help => `+helpAnswer+`
plan 4 1 20 2 2 200 => plan
slot 0 10 20 => 0
slot 1 50 60 => 1
slot 2 90 100 => 2
slot 3 130 140 => 3
link 0 6 100 4 => 0
link 1 1 1 1 => 1
bytes => 33
start 8 0 4 10 1000 => start
clocks => 0 4 10 1000
spread => 10
members 0 => 15
put 0 a => put
put 0 b => put
put 1 c => put
round => 1
clocks => 7 7 7 7
spread => 0
receive 1 0 => is a
receive 2 0 => is a
receive 1 0 => error 8
receive 0 1 => is c
lose 0 1 2 => lose
read 1 0 2 => read
read 1 2 2 => read
drift 1 -5 => drift
mode 0 0 0 1 => mode
round => 2
clocks => 8 6 7 7
spread => 2
members 0 => 7
members 3 => 15
receive 1 0 => is b
round => 3
clocks => 7 7 7 7
members 0 => 7
members 3 => 8 frozen
midpoint 1 0 10 1000 4 => 7
local 10 100 2 1 13 => 106
real 10 100 2 1 105 => 13
 => ok
clear => clear
clocks => error 6
bytes => error 1
`)
}

func TestPlan(t *testing.T) {
	// Each number is at its place: each of the plans is wrong at one alone, but the first and the last one.
	script(t, "", `
bytes => error 1
plan 4 1 9 1 1 100 => plan
bytes => 10
plan 0 1 9 1 1 100 => plan
bytes => error 1
plan 17 1 9 1 1 100 => plan
bytes => error 1
plan 4 2 9 1 1 100 => plan
bytes => error 1
plan 4 -1 9 1 1 100 => plan
bytes => error 1
plan 4 1 -1 1 1 100 => plan
bytes => error 2
plan 4 1 8 1 1 100 => plan
bytes => error 13
plan 4 1 9 -1 1 100 => plan
bytes => error 2
plan 4 1 9 2 1 100 => plan
bytes => error 13
plan 4 1 9 1 -1 100 => plan
bytes => error 2
plan 4 1 9 1 2 100 => plan
bytes => error 13
plan 4 1 9 2 0 100 => plan
bytes => 10
plan 4 1 9 1 1 0 => plan
bytes => error 2
plan 4 1 9 1 1 137438953473 => plan
bytes => error 2
plan 4 1 9 1 1 137438953472 => plan
bytes => 15
plan 4 1 9 1 1 128 => plan
bytes => 11
plan 16 5 128 1 1 16384 => plan
bytes => 13
`)
	for _, n := range []int{least, least + 1, greatest - 1, greatest} {
		for place := 1; place <= 6; place++ {
			line := swapped("plan 4 1 9 1 1 100", place, fmt.Sprint(n))
			want := "error 2"
			if place < 3 {
				want = "error 1"
			}
			is(t, "", line+"\nbytes\nstart 0 0 0 0 0\nclocks\nplan 4 1 9 1 1 100\nbytes\nstart 0 0 0 0 0", "plan", want, want, "error 6", "plan", "10", "start")
		}
	}
}

// TestPlanKeepsSlots: what it tells anew is its own numbers alone.
func TestPlanKeepsSlots(t *testing.T) {
	script(t, "", `
slot 0 10 20 => 0
link 0 2 1 1 => 0
plan 2 0 9 1 1 100 => plan
bytes => 17
plan 3 0 9 1 1 100 => plan
bytes => 17
slot 1 40 50 => 1
bytes => 20
plan 1 0 9 1 1 100 => plan
bytes => error 7
plan 2 0 9 1 1 59 => plan
bytes => error 2
plan 2 0 9 1 1 60 => plan
bytes => 20
start 0 0 0 => start
put 0 a => put
round => 1
receive 1 0 => is a
`)
}

// TestSlots: each number at its place; at most so many, whether they may be or not.
func TestSlots(t *testing.T) {
	script(t, "plan 2 0 9 1 1 100\n", `
slot 2 0 1 => 0
bytes => error 7
clear => clear
plan 2 0 9 1 1 100 => plan
slot 1 1 1 => 0
bytes => error 1
slot 0 0 1 => 1
bytes => error 1
clear => clear
plan 2 0 9 1 1 100 => plan
slot 1 -1 1 => 0
bytes => error 10
clear => clear
plan 2 0 9 1 1 100 => plan
slot 1 89 90 => 0
bytes => 13
slot 1 99 100 => 1
bytes => error 10
clear => clear
plan 2 0 9 1 1 100 => plan
slot 1 90 91 => 0
bytes => error 2
`)
	var text, want []string
	for i := range mostSlots {
		text = append(text, fmt.Sprintf("slot 0 %d %d", 3*i, 3*i+1))
		want = append(want, fmt.Sprint(i))
	}
	all := strings.Join(text, "\n") + "\n"
	is(t, "", all, want...)
	is(t, all+"plan 1 0 1 0 0 1000\n", "bytes\nslot 0 900 901\nbytes\nslot 0 0 0\nslot x 0 0\nbytes\nlink 0 1 1 1", "107", "error 4", "107", "error 4", "error 3", "107", "0")
	is(t, all+"plan 1 0 1 0 0 1000\nslot 0 900 901\n", "start 0 5\nslot 0 900 901\nround", "start", "error 6", "1")
	is(t, all, "clear\nslot 0 0 1\nslot 0 0 1", "clear", "0", "1")
	is(t, "", strings.Repeat("slot -1 9223372036854775807 -9223372036854775808\n", mostSlots)+"slot 0 0 1\nslot 0 0 1", append(want, "error 4", "error 4")...)
}

// TestLinks likewise.
func TestLinks(t *testing.T) {
	script(t, "plan 2 0 9 1 1 100\n", `
link 2 1 1 1 => 0
bytes => error 7
clear => clear
plan 2 0 9 1 1 100 => plan
link 0 1 1 1 => 0
bytes => error 1
clear => clear
plan 2 0 9 1 1 100 => plan
link 0 2 0 1 => 0
bytes => error 2
clear => clear
plan 2 0 9 1 1 100 => plan
link 0 2 1 17 => 0
bytes => error 2
clear => clear
plan 2 0 9 1 1 100 => plan
link 0 2 17 16 => 0
bytes => 14
link 1 1 128 1 => 1
bytes => 19
`)
	var want []string
	for i := range mostLinks {
		want = append(want, fmt.Sprint(i))
	}
	all := strings.Repeat("link 0 2 1 1\n", mostLinks)
	is(t, "", all, want...)
	is(t, all+"plan 2 0 1 0 0 100\n", "bytes\nlink 0 2 1 1\nbytes\nlink 0 0 0 0\nlink 0 0 0\nbytes\nslot 0 0 1", "42", "error 4", "42", "error 4", "error 3", "42", "0")
	is(t, all, "clear\nlink 0 2 1 1\nlink 0 2 1 1", "clear", "0", "1")
	is(t, "", strings.Repeat("link 9223372036854775807 -9223372036854775808 0 -1\n", mostLinks)+"link 0 2 1 1\nlink 0 2 1 1", append(want, "error 4", "error 4")...)
	is(t, all+"plan 2 0 9 1 1 100\nslot 0 0 5\nstart 0 0 0\n", "put 7 a\nput 8 a\nround\nreceive 1 7", "put", "error 2", "1", "is a")
}

// TestBytesOfBoth: bytes tells of the plan, whether a cluster was started by it or not.
func TestBytesOfBoth(t *testing.T) {
	script(t, four, `
bytes => 29
start 0 0 0 0 0 => start
bytes => 29
drift 1 => drift
round => 1
bytes => 29
plan 4 1 20 2 2 20000 => error 6
bytes => 29
`)
}

// TestStart: New's errors, each in its turn, and none of them leaves a cluster.
func TestStart(t *testing.T) {
	for _, c := range []struct{ ahead, line, want string }{
		{"", "start 0", "error 1"},
		{"", "start 0 0", "error 1"},
		{"plan 1 0 1 0 0 0\n", "start 0 0", "error 2"},
		{"plan 1 0 0 0 0 1\n", "start 0 0", "error 13"},
		{"plan 1 0 1 0 0 9\nslot 0 1 1\n", "start 0 0", "error 1"},
		{"plan 1 0 1 0 0 9\nslot 0 -1 1\n", "start 0 0", "error 10"},
		{"plan 1 0 1 0 0 9\nslot 0 0 8\n", "start 0 0", "error 2"},
		{"plan 1 0 1 0 0 9\nslot 1 0 7\n", "start 0 0", "error 7"},
		{"plan 1 0 1 0 0 9\nlink 1 1 1 1\n", "start 0 0", "error 7"},
		{"plan 2 0 1 0 0 9\nlink 1 2 1 1\n", "start 0 0 0", "error 1"},
		{"plan 2 0 1 0 0 9\nlink 1 1 1 0\n", "start 0 0 0", "error 2"},
		{"plan 2 0 1 0 0 9\nlink 1 1 1 0\n", "start 1", "error 2"}, // Check's comes first
		{four, "start 3 0 0 0 0", "error 1"},
		{four, "start 3 0 0 0", "error 1"}, // ahead of missing clocks
		{four, "start 15 0 0 0 0", "error 1"},
		{four, "start 16 0 0 0 0", "error 1"},
		{four, "start -1 0 0 0 0", "error 1"},
		{four, "start -9223372036854775808 0 0 0 0", "error 1"},
		{four, "start 9223372036854775807 0 0 0 0", "error 1"},
		{four, "start 0", "error 7"},
		{four, "start 0 0 0 0", "error 7"},
		{four, "start 0 0 0 0 0 0", "error 7"},
		{four, "start 0 0 0 9223372036854775807", "error 7"}, // ahead of clocks that are too far
		{four, "start 0 0 0 0 21", "error 2"},
		{four, "start 1 0 0 0 21", "error 2"},
		{four, "start 8 0 0 0 274877906945", "error 2"},
		{four, "start 8 0 0 0 -274877906945", "error 2"},
		{four, "start 8 0 0 0 9223372036854775807", "error 2"},
		{four, "start 8 -9223372036854775808 0 0 0", "error 2"},
	} {
		is(t, c.ahead, c.line+"\nclocks\nround\nslot 0 0 1\nplan 1 0 1 0 0 1\n"+c.line, c.want, "error 6", "error 6", fmt.Sprint(strings.Count(c.ahead, "slot")), "plan", rows(t, c.ahead+"slot 0 0 1\nplan 1 0 1 0 0 1\n", c.line)[0])
	}
	for _, c := range []struct{ line, clocks, spread string }{
		{"start 0 0 0 0 20", "0 0 0 20", "20"},
		{"start 8 0 0 0 21", "0 0 0 21", "0"},
		{"start 1 -274877906944 274877906944 274877906943 274877906924", "-274877906944 274877906944 274877906943 274877906924", "20"},
		{"start 4 -7 -5 274877906944 -7", "-7 -5 274877906944 -7", "2"},
	} {
		is(t, four, c.line+"\nclocks\nspread\nmembers 0\nmembers 3", "start", c.clocks, c.spread, "15", "15")
	}
	is(t, "plan 1 0 1 0 0 1\n", "start 0 -5\nclocks\nspread\nmembers 0\nround\nclocks", "start", "-5", "0", "1", "1", "-5")
	is(t, "plan 16 5 1 0 0 1\n", "start 31"+strings.Repeat(" 3", 16)+"\nmembers 15\nclocks", "start", "65535", strings.TrimSpace(strings.Repeat("3 ", 16)))
}

func TestPutAndReceive(t *testing.T) {
	script(t, four+"start 0 0 0 0 0\n", `
receive 1 0 => error 8
receive 0 0 => error 2
receive 3 0 => error 2
receive 4 0 => error 2
receive -1 0 => error 2
receive 1 1 => error 2
receive 1 -1 => error 2
receive 9223372036854775807 0 => error 2
receive 1 -9223372036854775808 => error 2
put 1 a => error 2
put -1 a => error 2
put 9223372036854775807 a => error 2
put -9223372036854775808 a => error 2
put 0 `+strings.Repeat("x", 41)+` => error 4
put 0 `+strings.Repeat("x", 40)+` => put
put 0 b => put
put 0 c => put
put 0 d => put
put 0 e => error 12
put 0 `+strings.Repeat("x", 41)+` => error 4
receive 1 0 => error 8
round => 1
put 0 e => put
put 0 f => error 12
round => 2
round => 3
receive 1 0 => is `+strings.Repeat("x", 40)+`
receive 1 0 => is b
receive 1 0 => is c
receive 1 0 => error 8
receive 2 0 => is `+strings.Repeat("x", 40)+`
round => 4
round => 5
round => 6
receive 2 0 => is b
receive 2 0 => is c
receive 2 0 => is d
receive 2 0 => is e
receive 2 0 => error 8
receive 1 0 => is d
receive 1 0 => is e
receive 1 0 => error 8
`)
}

// TestPortIsFull: of 17 messages that come, and are not taken out, the last one is lost.
func TestPortIsFull(t *testing.T) {
	var text strings.Builder
	for i := range 17 {
		fmt.Fprintf(&text, "put 0 m%d\nround\n", i)
	}
	for range 18 {
		text.WriteString("receive 2 0\n")
	}
	got := rows(t, four+"start 0 0 0 0 0\n", text.String())[34:]
	for i, answer := range got {
		want := "error 8"
		if i < 16 {
			want = fmt.Sprintf("is m%d", i)
		}
		if answer != want {
			t.Errorf("receive, for the time %d: %q, want %q", i, answer, want)
		}
	}
}

// TestLose: one more each time, by both channels, and to whom (bits).
func TestLose(t *testing.T) {
	script(t, three, `
lose 0 0 2 => lose
round => 1
members 1 => 7
lose 0 1 2 => lose
round => 2
members 1 => 7
lose 2 0 3 => lose
lose 2 1 2 => lose
round => 3
members 0 => 7
members 1 => 3
members 2 => 7
`)
	script(t, three, `
lose 2 1 -1 => lose
lose 2 0 7 => lose
lose 3 0 7 => lose
lose 2 2 7 => lose
lose -1 -1 7 => lose
lose 9223372036854775807 0 7 => lose
lose 1 -9223372036854775808 7 => lose
lose 1 0 9223372036854775807 => lose
round => 1
members 0 => 3
members 1 => 3
members 2 => 7
`)
	is(t, three, strings.Repeat("lose 2 0 7\n", 500)+"lose 2 1 1\nround\nmembers 0\nmembers 1", append(strings.Fields(strings.Repeat("lose ", 501)), "1", "3", "7")...)
}

// TestRead: one more each time; the places are who reads, of whom, and how much.
func TestRead(t *testing.T) {
	script(t, four+"start 8 0 0 0 0\n", `
read 0 1 2 => read
round => 1
clocks => 0 0 0 0
read 0 1 2 => read
read 0 2 99 => read
round => 2
clocks => 1 0 0 0
round => 3
clocks => 0 0 0 0
read 0 1 2 => read
read 0 3 99 => read
round => 4
clocks => 1 0 0 0
round => 5
read 2 0 -2 => read
read 2 1 -9223372036854775808 => read
round => 6
clocks => 0 0 -1 0
round => 7
read 0 1 2 => read
read 0 2 2 => read
read 0 1 0 => read
round => 8
clocks => 0 0 0 0
read 4 1 2 => read
read 0 4 2 => read
read 0 0 2 => read
read -1 -9223372036854775808 9223372036854775807 => read
round => 9
clocks => 0 0 0 0
`)
}

// TestDrift: what is told last counts, alone; cut within the plan's, and of nodes alone.
func TestDrift(t *testing.T) {
	script(t, four+"start 0 0 0 0 0\n", `
drift 1 2 -1 -2 => drift
clocks => 0 0 0 0
round => 1
clocks => 1 2 -1 -2
spread => 4
round => 2
clocks => 0 0 0 0
drift 1 1 1 1 => drift
drift 2 => drift
round => 3
clocks => 2 0 0 0
round => 4
clocks => 0 0 0 0
drift 9223372036854775807 -9223372036854775808 3 -3 => drift
round => 5
clocks => 2 -2 2 -2
clear => clear
`)
	script(t, four+"start 0 0 0 0 0\n", `
drift 0 0 0 0 1 2 3 => drift
round => 1
clocks => 0 0 0 0
drift 0 1 => drift
round => 2
clocks => 0 1 0 0
`)
}

// TestMode: likewise; of faulty nodes alone. Node 3 is faulty: who does not hear it, or hears it tell other members, takes 7.
func TestMode(t *testing.T) {
	for _, c := range []struct{ lines, takes string }{
		{"mode 0", "15"},
		{"mode 0 0 0 0", "15"},
		{"mode 0 0 0 1", "7"},
		{"mode 0 0 0 2", "7"},
		{"mode 0 0 0 3", "15"},
		{"mode 0 0 0 -1", "15"},
		{"mode 0 0 0 9223372036854775807", "15"},
		{"mode 0 0 0 -9223372036854775808", "15"},
		{"mode 1 1 1", "15"},
		{"mode 1 2 1 0", "15"},
		{"mode 1 2 1 1", "7"},
		{"mode 0 0 0 1 1 1 9223372036854775807", "7"},
		{"mode 0 0 0 1\nmode 0 0 0 0", "15"},
		{"mode 0 0 0 1\nmode 1", "15"},
		{"mode 0 0 0 0\nmode 0 0 0 1", "7"},
		{"mode 0\nmode 0 0 0 2", "7"},
	} {
		mode := slices.Repeat([]string{"mode"}, strings.Count(c.lines, "mode"))
		is(t, four+"start 8 0 0 0 0\n", c.lines+"\nround\nmembers 0\nmembers 1\nmembers 2\nmembers 3", append(mode, "1", c.takes, c.takes, c.takes, "15")...)
		is(t, four+"start 0 0 0 0 0\n", c.lines+"\nround\nmembers 0", append(mode, "1", "15")...)
	}
	// Behind a round in which it was mute it knows not of it, takes all that the others send as bad, and freezes itself.
	script(t, four+"start 8 0 0 0 0\n", `
round => 1
mode 0 0 0 1 => mode
members 0 => 15
round => 2
members 0 => 7
members 3 => 15
round => 3
members 0 => 7
members 3 => 8 frozen
`)
}

// TestMembers: also of a node that is frozen, for it heard as many bad slots as good ones.
func TestMembers(t *testing.T) {
	script(t, three, `
members 0 => 7
members 2 => 7
members 3 => error 2
members -1 => error 2
members 9223372036854775807 => error 2
members -9223372036854775808 => error 2
lose 0 0 2 => lose
lose 0 1 2 => lose
round => 1
members 0 => 5
members 1 => 2
members 2 => 5
round => 2
members 0 => 5
members 1 => 2 frozen
members 2 => 5
round => 3
members 1 => 2 frozen
members 3 => error 2
`)
}

func TestMidpoint(t *testing.T) {
	lines := `
midpoint 1 3 9 -4 7 => 5
midpoint 1 7 -4 9 3 => 5
midpoint 0 3 => 3
midpoint 0 -3 -4 => -4
midpoint 0 3 4 => 3
midpoint 0 => error 1
midpoint 1 1 2 => error 1
midpoint 1 1 2 3 => 2
midpoint 2 1 2 3 => error 1
midpoint -1 1 2 3 => error 1
midpoint 9223372036854775807 1 2 3 => error 1
midpoint -9223372036854775808 1 2 3 => error 1
midpoint 1 1 2 1099511627776 => 2
midpoint 1 1 2 1099511627777 => error 2
midpoint 1 -1099511627777 2 3 => error 2
midpoint 1 -9223372036854775808 0 9223372036854775807 => error 2
midpoint 0 1099511627776 1099511627776 => 1099511627776
midpoint 0 -1099511627776 -1099511627776 => -1099511627776
`
	script(t, "", lines)
	script(t, edge, lines)
}

func TestLocalAndReal(t *testing.T) {
	lines := `
local 10 100 2 1 13 => 106
local 10 100 2 1 10 => 100
local 10 100 2 1 9 => error 2
local 10 100 3 1 13 => error 1
local 10 100 1 2 13 => 101
local 0 -7 10 7 99 => 134
local -1 0 1 1 9 => error 1
local 0 1099511627776 1 1 0 => 1099511627776
local 0 1099511627776 1 1 1 => error 2
local 0 0 1 1 1099511627776 => 1099511627776
local 0 0 1 1 1099511627777 => error 2
local 0 0 1000000 1000000 5 => 5
local 0 0 1000001 1000001 5 => error 1
real 10 100 2 1 105 => 13
real 10 100 2 1 106 => 13
real 10 100 2 1 107 => 14
real 10 100 2 1 99 => 10
real 10 100 2 1 -1099511627776 => 10
real 10 100 2 1 -1099511627777 => error 2
real 10 100 1 2 105 => 20
real 10 100 1 3 105 => error 1
real 10 0 1 1 1099511627766 => 1099511627776
real 10 0 1 1 1099511627767 => error 2
real 1099511627777 0 1 1 0 => error 1
`
	script(t, "", lines)
	script(t, edge, lines)
	for _, name := range []string{"local", "real"} {
		for place := 1; place <= 5; place++ {
			want := "error 1"
			if place == 5 {
				want = "error 2"
			}
			for _, n := range []int{least, least + 1, greatest - 1, greatest} {
				is(t, "", swapped(name+" 10 100 2 1 105", place, fmt.Sprint(n)), want)
			}
		}
	}
}

// TestHelp: it tells the table's words, rising, and no others.
func TestHelp(t *testing.T) {
	for _, ahead := range []string{"", "plan 4 1 20 2 2 200\n", edge} {
		is(t, ahead, "help", helpAnswer)
		is(t, ahead, "help\nhelp 0\nhelp help\nhelp", helpAnswer, "error 3", "error 3", helpAnswer)
	}
	words := strings.Fields(helpAnswer)
	if len(words) != len(forms) {
		t.Errorf("help tells %d words, want %d", len(words), len(forms))
	}
	for _, word := range words {
		if !isLine(word) {
			t.Errorf("%q is no line", word)
		}
	}
}
