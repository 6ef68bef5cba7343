package desk_test

import (
	"fmt"
	"slices"
	"strings"
	"sync"
	"testing"

	"metronome/desk"
)

// 11.1: when a line may be told; that an error changes nothing; what is to happen in a round; what is there behind clear, and at first.

// TestState: ErrForm comes first, then ErrState, then what a layer says.
func TestState(t *testing.T) {
	before := []string{"", "plan 4 1 20 2 2 200\n", four, four + "start 3 0 0 0 0\n", edge + "clear\n"}
	behind := []string{edge, three, four + "start 8 0 4 10 1000\n", edge + "round\ndrift 1\nround\n"}
	for _, f := range forms {
		ways := before
		switch f.when {
		case anyTime:
			continue
		case notStarted:
			ways = behind
		}
		for _, ahead := range ways {
			is(t, ahead, f.line, "error 6")
			is(t, ahead, f.line+"\n"+f.line, "error 6", "error 6")
			is(t, ahead, f.line+" x", "error 3")
			is(t, ahead, f.name+strings.Repeat(" 1", 8)+" x", "error 3")
			is(t, ahead, strings.ToUpper(f.line), "error 3")
			words := strings.Fields(f.line)
			if len(words) > 1 {
				is(t, ahead, f.name, "error 3")
			}
			for place := 1; place < len(words); place++ {
				if f.name == "put" && place == 2 {
					is(t, ahead, swapped(f.line, place, strings.Repeat("x", mostData+1)), "error 6")
					continue
				}
				is(t, ahead, swapped(f.line, place, "x"), "error 3")
				is(t, ahead, swapped(f.line, place, "01"), "error 3")
				is(t, ahead, swapped(f.line, place, "9223372036854775808"), "error 3")
				is(t, ahead, swapped(f.line, place, "-1"), "error 6")
				is(t, ahead, swapped(f.line, place, "9223372036854775807"), "error 6")
				is(t, ahead, swapped(f.line, place, "-9223372036854775808"), "error 6")
			}
		}
	}
}

// TestStateBeforeLimits: with a cluster there is no room to be asked for, nor a plan to be looked at.
func TestStateBeforeLimits(t *testing.T) {
	var slots strings.Builder
	for i := range mostSlots {
		fmt.Fprintf(&slots, "slot 0 %d %d\n", 3*i, 3*i+1)
	}
	full := slots.String() + strings.Repeat("link 0 2 1 1\n", mostLinks) + "plan 2 0 1 0 0 1000\nstart 0 0 0\n"
	is(t, full, "slot 0 0 1\nlink 0 2 1 1\nstart 0\nstart 7 0 0\nstart 0 0 0\nround", "error 6", "error 6", "error 6", "error 6", "error 6", "1")
	is(t, "", "start 0 0\nround\nmembers 99\nput 99 a\nreceive 99 99", "error 1", "error 6", "error 6", "error 6", "error 6")
}

// asked are lines that tell of all that there is, with a round gone by between them, and another one: so what was to happen in it is seen, and that it is gone. They end with the plan's bytes, with and without a cluster.
const asked = `bytes
clocks
spread
members 0
members 1
members 2
members 3
receive 1 0
receive 2 0
round
clocks
members 0
members 1
members 2
members 3
receive 1 0
receive 2 0
round
clocks
members 0
members 1
receive 1 0
receive 2 0
clear
bytes
`

// wrongLines are answered with an error in each state.
var wrongLines = []string{
	"x", "plan", "plan 1 0 1 0 0", "plan 1 0 1 0 0 x", "plan 1 0 1 0 0 01", "slot 0 0", "slot 0 170 171 1", "slot 0 170 171x", "link 1 1 1", "link 1 1 1 +1", "bytes 0", "start", "start x", "start 0 0 0 0 x",
	"put 0", "put 0 x x", "put x 0", "put 9 x", "put -1 x", "put 0 " + strings.Repeat("x", mostData+1), "receive 0", "receive x 0", "receive 9 0", "receive 0 9", "lose 3 0", "lose 3 0 x", "lose 3 0 15 15", "read 0 1", "read 0 1 x", "read 0 1 1 1",
	"drift", "drift x", "drift 1 1 1 1 x", "drift 1 1 1 1 1 01", "mode", "mode 1 1 1 x", "mode 1 1 1 -0", "round 1", "round x", "clocks 0", "spread 0", "members", "members x", "members 4", "members -1", "midpoint", "midpoint 0", "midpoint 0 x", "midpoint 1 1 1",
	"local 0 0 1 1", "local 0 0 1 3 1", "local 5 0 1 1 4", "real 0 0 1 1", "real 0 0 3 1 1", "real 0 0 1 1 1099511627777", "clear 0", "clear clear", "help help", "CLEAR", "ROUND", "\t", "clear\t", "\tround",
}

// TestErrorsChangeNothing: with a line that has an error between them, all others are answered as without it.
func TestErrorsChangeNothing(t *testing.T) {
	notStartedLines := append([]string{"round", "clocks", "spread", "members 0", "put 0 a", "receive 1 0", "lose 0 0 1", "read 0 1 2", "drift 1", "mode 1", "start 3 0 0 0 0", "start 0", "start 0 0 0 0", "start 0 0 0 0 0 0", "start 0 0 0 0 21", "start 0 0 0 0 274877906945"}, wrongLines...)
	startedLines := append([]string{"plan 1 0 1 0 0 1", "slot 0 170 171", "link 1 1 1 1", "start 0 0 0 0 0", "start 8 0 4 10 1000", "put 0 full", "receive 0 0", "receive 3 0"}, wrongLines...)
	const start = "start 8 0 4 10 1000\n"
	const pending = "put 0 a\nput 0 b\nround\nput 0 c\nput 0 d\nput 0 e\nlose 1 0 15\nlose 1 1 15\nread 0 1 2\nread 0 2 2\ndrift 1 1 -1\nmode 0 0 0 1\n"
	plain := rows(t, four+start+pending, asked)
	for _, line := range startedLines {
		is(t, four+start+pending, line+"\n"+asked, append(rows(t, four+start+pending, line), plain...)...)
		if got := rows(t, four+start+pending, line)[0]; !strings.HasPrefix(got, "error ") {
			t.Errorf("%q: %q, want an error", line, got)
		}
	}
	plain = rows(t, four, "bytes\n"+start+pending+asked)
	for _, line := range notStartedLines {
		is(t, four, line+"\nbytes\n"+start+pending+asked, append(rows(t, four, line), plain...)...)
		if got := rows(t, four, line)[0]; !strings.HasPrefix(got, "error ") {
			t.Errorf("%q: %q, want an error", line, got)
		}
	}
}

// TestRoundForgets: what is to happen in a round is gone behind it, each kind of it. Where members are asked one node sends alone: so it does not find out that it was not heard, and what happened leaves nothing else behind.
func TestRoundForgets(t *testing.T) {
	for _, c := range []struct{ name, ahead, line, ask, happened, gone string }{
		{"losses", "plan 2 0 9 1 1 100\nslot 1 20 25\nstart 0 0 0\n", "lose 0 0 1\nlose 0 1 1", "members 0", "1", "3"},
		{"readings", four + "start 8 0 0 0 0\n", "read 0 1 2\nread 0 2 2", "clocks", "1 0 0 0", "0 0 0 0"},
		{"drifts", four + "start 8 0 0 0 0\n", "drift 2 2 2 2", "clocks", "2 2 2 2", "2 2 2 2"},
		{"modes", "plan 4 1 20 2 2 200\nslot 3 10 20\nstart 8 0 0 0 0\n", "mode 0 0 0 1", "members 0", "7", "15"},
	} {
		t.Run(c.name, func(t *testing.T) {
			text := c.line + "\nround\n" + c.ask + "\nround\n" + c.ask
			want := []string{"1", c.happened, "2", c.gone}
			if got := rows(t, c.ahead, text); !slices.Equal(got[len(got)-4:], want) {
				t.Errorf("%q: %q, want %q at the end", text, got, want)
			}
		})
	}
}

// TestRoundWithError: it changes nothing, so what was to happen in it is to happen yet.
func TestRoundWithError(t *testing.T) {
	script(t, edge, `
put 0 a => put
lose 1 0 1 => lose
lose 1 1 1 => lose
read 0 1 -1 => read
drift 9 9 => drift
round => error 6
round => error 6
clocks => 274877906944 274877906944
members 0 => 3
receive 1 0 => error 8
put 0 b => error 12
drift 0 => drift
round => 1
clocks => 274877906943 274877906944
members 0 => 1
receive 1 0 => is a
round => 2
clocks => 274877906943 274877906943
`)
	// The drift itself stays, too: it is what makes the round wrong, until another one is told.
	script(t, edge, `
drift 1 1 => drift
round => error 6
lose 1 0 1 => lose
lose 1 1 1 => lose
round => error 6
read 0 1 -1 => read
round => error 6
drift -1 => drift
round => 1
clocks => 274877906942 274877906944
members 0 => 1
`)
	// Readings that make up for it let it be added: it was there all along.
	script(t, "plan 2 0 20 2 1 100\nstart 0 274877906944 274877906944\n", `
drift 1 1 => drift
round => error 6
read 0 1 -2 => read
read 1 0 -2 => read
round => 1
clocks => 274877906944 274877906944
round => 2
clocks => 274877906944 274877906944
drift 0 1 => drift
round => error 6
clear => clear
clocks => error 6
`)
	// Modes stay likewise.
	script(t, "plan 4 1 20 2 2 200\nslot 3 10 20\nstart 8 274877906944 274877906944 274877906944 274877906944\n", `
mode 0 0 0 1 => mode
drift 1 => drift
round => error 6
drift 0 => drift
round => 1
members 0 => 7
round => 2
members 0 => 15
`)
}

// TestClear: behind it all is as at first, whatever was there, with and without a cluster.
func TestClear(t *testing.T) {
	texts := []string{"bytes", "help", "clocks", "round", "slot 0 0 1", "link 0 2 1 1", "start 0", "start 0 0", "plan 1 0 1 0 0 1\nbytes\nstart 0 3\nclocks\nround", four + "bytes\nstart 8 0 4 10 1000\n" + asked, edge + asked, three + asked, strings.Repeat("slot 0 0 1\n", mostSlots+1), strings.Repeat("link 0 0 1 1\n", mostLinks+1)}
	aheads := []string{"clear\n", "clear\nclear\n", "plan 4 1 20 2 2 200\nclear\n", "slot 0 0 1\nclear\n", "link 0 2 1 1\nclear\n", strings.Repeat("slot 0 0 1\n", mostSlots) + strings.Repeat("link 0 2 1 1\n", mostLinks) + "clear\n", four + "clear\n", four + "start 3 0 0 0 0\nclear\n", edge + "clear\n", edge + "put 0 a\nround\nclear\n", three + "lose 0 0 7\nlose 0 1 7\nread 0 1 1\nread 2 1 1\nmode 1 1 1\ndrift 1 1 1\nclear\n", edge + "drift 1\nround\nclear\n"}
	for _, ahead := range aheads {
		if got := rows(t, "", ahead); got[len(got)-1] != "clear" {
			t.Errorf("%q: %q, want clear at the end", ahead, got)
		}
		for _, text := range texts {
			is(t, ahead, text, rows(t, "", text)...)
		}
	}
	// What was to happen in the next round of the one cluster does not happen in that of the next one.
	is(t, three+"lose 2 0 1\nlose 2 1 1\ndrift 1\nread 1 0 1\nclear\n"+three, "round\nmembers 0\nclocks", "1", "7", "0 0 0")
}

// TestSessionsApart: each knows nothing of those before, nor of those at the same time.
func TestSessionsApart(t *testing.T) {
	texts := []string{"", "bytes", "clocks", four, four + "start 8 0 4 10 1000\n" + asked, edge + asked, three + asked, strings.Repeat("slot 0 0 1\n", 20), "link 0 2 1 1", "start 0", "x"}
	var want []string
	for _, text := range texts {
		want = append(want, desk.Session(text))
	}
	for range 3 {
		for i := range texts {
			for j, text := range texts {
				desk.Session(texts[i])
				if got := desk.Session(text); got != want[j] {
					t.Fatalf("%q behind %q: %q, want %q", text, texts[i], got, want[j])
				}
			}
		}
	}
	var wg sync.WaitGroup
	for i := range 8 * len(texts) {
		wg.Go(func() {
			for k := range 50 {
				j := (i + k) % len(texts)
				if got := desk.Session(texts[j]); got != want[j] {
					t.Errorf("%q beside others: %q, want %q", texts[j], got, want[j])
				}
			}
		})
	}
	wg.Wait()
}
