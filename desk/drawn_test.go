package desk_test

import (
	"fmt"
	"slices"
	"strings"
	"testing"

	"metronome/desk"
)

// Sessions that are drawn: against the second reckoning, and by what holds of each.

// number is a small one, rarely one at a bound, or as far off as there is; very rarely a word that is none.
func (d *die) number(most int) string {
	switch d.n(40) {
	case 0:
		return d.any(rightNumbers...)
	case 1:
		return d.any("-1", "15", "16", "32", "1000000", "274877906944", "-274877906944", "274877906945", "137438953472", "1099511627776")
	case 2:
		if d.n(4) == 0 {
			return d.any(wrongNumbers...)
		}
	}
	return fmt.Sprint(d.n(most+1) - d.n(2)*d.n(2)*d.n(most+1))
}

// line is one of a form, or nearly.
func (d *die) line(f form) string {
	most := 5
	if f.name == "start" || f.name == "drift" || f.name == "read" {
		most = 12
	}
	if (f.name == "local" || f.name == "real") && d.n(2) == 0 {
		return fmt.Sprintf("%s %d %d %d %d %s", f.name, d.n(20), d.n(100)-50, 10+d.n(11), 10+d.n(11), d.any(d.number(100), "1099511627776", "1099511627777", "999999999999"))
	}
	words := []string{f.name}
	behind := strings.TrimSuffix(f.behind, "+")
	if behind != f.behind {
		behind += strings.Repeat("n", d.n(5))
	}
	switch d.n(40) {
	case 0:
		behind += "n"
	case 1:
		behind = behind[:max(0, len(behind)-1)]
	}
	for _, kind := range behind {
		if kind == 'w' {
			words = append(words, d.any("a", "b", "c", "0", "-1", "x\ty", "\xff", strings.Repeat("z", mostData), strings.Repeat("z", mostData+1)))
		} else {
			words = append(words, d.number(most))
		}
	}
	line := strings.Join(words, " ")
	if d.n(20) == 0 {
		line = d.any(" ", "  ", "\t") + strings.ReplaceAll(line, " ", d.any(" ", "  ", "   ")) + d.any(" ", "\r", "")
	}
	return line
}

// bus is a plan that may be, mostly, and its start.
func (d *die) bus() string {
	nodes := 2 + d.n(4)
	faulty := (nodes - 1) / 3
	var b strings.Builder
	skew := 20 + d.n(3)
	fmt.Fprintf(&b, "plan %d %d %d %d %d %d\n", nodes, faulty, skew, d.n(3), d.n(3), 300+d.n(50))
	for i := range d.n(6) {
		fmt.Fprintf(&b, "slot %d %d %d\n", d.n(nodes), 50*i, 50*i+1+d.n(20))
	}
	for range d.n(4) {
		from := d.n(nodes)
		fmt.Fprintf(&b, "link %d %d %d %d\n", from, d.n(1<<nodes)&^(1<<from)|1<<((from+1)%nodes), 1+d.n(400), 1+d.n(3))
	}
	if d.n(20) == 0 {
		b.WriteString(d.line(forms[d.n(3)]) + "\n")
	}
	at := 0
	if d.n(4) == 0 {
		at = quarter - skew
	}
	fmt.Fprintf(&b, "start %d", d.n(2)*faulty<<d.n(nodes))
	for range nodes {
		fmt.Fprintf(&b, " %d", at+d.n(skew+1))
	}
	return b.String() + "\n"
}

// session is a text of buses, and lines between; of some the lines are drawn among all, of some among those that ask for a cluster.
func (d *die) session() string {
	text := ""
	for range 1 + d.n(2) {
		if d.n(8) > 0 {
			text += d.bus()
		}
		for range d.n(60) {
			f := forms[d.n(len(forms))]
			if f.name == "clear" && d.n(5) > 0 {
				continue
			}
			if d.n(4) > 0 {
				f = forms[5+d.n(10)]
			}
			text += d.line(f) + "\n"
			if d.n(40) == 0 {
				text += d.any("\n", " \n", "x\n", "\xff\xfe\n", "Round\n")
			}
		}
		text += d.any("clear\n", "")
	}
	if d.n(2) == 0 {
		text = strings.TrimSuffix(text, "\n")
	}
	return text
}

// TestDrawn: both reckonings answer alike. So that they have something to answer, each form must be answered with and without an error, and each error of the layers come up.
func TestDrawn(t *testing.T) {
	d := die(11)
	counts := map[string]int{}
	for range 3000 {
		text := d.session()
		want := modelled(text)
		if got := desk.Session(text); got != want {
			t.Fatalf("%q: %q, want %q", text, got, want)
		}
		answers := linesOf(want)
		for i, line := range linesOf(text) {
			words := wordsOf(line)
			if len(words) == 0 || !isLine(words[0]) {
				continue
			}
			if strings.HasPrefix(answers[i], "error ") {
				counts[words[0]+" "+answers[i]]++
				counts[answers[i]]++
			} else {
				counts[words[0]]++
			}
			if strings.HasSuffix(answers[i], " frozen") {
				counts["frozen"]++
			}
		}
	}
	asked := []string{"frozen", "error 1", "error 2", "error 3", "error 6", "error 7", "error 8", "error 10", "error 12", "error 13", "put error 2", "put error 4", "put error 6", "put error 12", "receive error 8", "round error 6", "start error 2", "start error 6", "start error 7", "members error 2", "midpoint error 1", "midpoint error 2", "local error 1", "local error 2", "real error 1", "real error 2"}
	for _, f := range forms {
		asked = append(asked, f.name)
		if f.behind != "" {
			asked = append(asked, f.name+" error 3")
		}
	}
	for _, what := range asked {
		if counts[what] < 5 {
			t.Errorf("%s: came up %d times", what, counts[what])
		}
	}
}

// TestDrawnWithoutErrors: a line with an error changes nothing, so without such lines all others are answered alike.
func TestDrawnWithoutErrors(t *testing.T) {
	d := die(12)
	for range 1500 {
		text := d.session()
		var lines, want []string
		answers := linesOf(desk.Session(text))
		for i, line := range linesOf(text) {
			if !strings.HasPrefix(answers[i], "error ") {
				lines, want = append(lines, line), append(want, answers[i])
			}
		}
		if len(lines) == 0 {
			continue
		}
		if got := linesOf(desk.Session(strings.Join(lines, "\n") + "\n")); !slices.Equal(got, want) {
			t.Fatalf("%q: %q, want %q", lines, got, want)
		}
	}
}

// TestDrawnWithoutQuestions: nor does a line that only asks.
func TestDrawnWithoutQuestions(t *testing.T) {
	d := die(13)
	questions := []string{"bytes", "clocks", "spread", "members", "midpoint", "local", "real", "help"}
	for range 1500 {
		text := d.session()
		var lines, want []string
		answers := linesOf(desk.Session(text))
		for i, line := range linesOf(text) {
			if words := wordsOf(line); len(words) > 0 && !slices.Contains(questions, words[0]) {
				lines, want = append(lines, line), append(want, answers[i])
			}
		}
		if len(lines) == 0 {
			continue
		}
		if got := linesOf(desk.Session(strings.Join(lines, "\n") + "\n")); !slices.Equal(got, want) {
			t.Fatalf("%q: %q, want %q", lines, got, want)
		}
	}
}

// TestDrawnBehindClear: what is behind clear is answered as a text of its own.
func TestDrawnBehindClear(t *testing.T) {
	d := die(14)
	for range 1000 {
		a, b := strings.TrimSuffix(d.session(), "\n"), "bytes\n"+d.session()
		if got, want := desk.Session(a+"\nclear\n"+b), desk.Session(a+"\n")+"clear\n"+desk.Session(b); got != want {
			t.Fatalf("%q, clear, %q: %q, want %q", a, b, got, want)
		}
	}
}

// TestDrawnBytes: texts of any bytes, mostly such as lines are made of.
func TestDrawnBytes(t *testing.T) {
	d := die(15)
	const signs = "  \n\n\n0123456789--+x\t\r\x00\xff"
	for range 3000 {
		text := ""
		for range d.n(60) {
			switch d.n(6) {
			case 0:
				text += forms[d.n(len(forms))].name
			case 1:
				text += d.line(forms[d.n(len(forms))])
			case 2:
				text += string([]byte{byte(d.n(256))})
			case 3:
				text += string(rune(d.n(0x3100)))
			default:
				text += string(signs[d.n(len(signs))])
			}
		}
		if got, want := desk.Session(text), modelled(text); got != want {
			t.Fatalf("%q: %q, want %q", text, got, want)
		}
	}
}

// TestFarNumbers: at each place of each line, alone and beside others, as great and as small as there are; behind each of them all that there is is asked.
func TestFarNumbers(t *testing.T) {
	far := []string{fmt.Sprint(least), fmt.Sprint(least + 1), "-4611686018427387904", "-1099511627776", "-4294967296", "-64", "-1", "63", "64", "65", "4294967296", "1099511627776", "4611686018427387904", fmt.Sprint(greatest - 1), fmt.Sprint(greatest)}
	d := die(16)
	for _, f := range forms {
		words := strings.Fields(f.line)
		for _, ahead := range f.ways() {
			check := func(line string) {
				text := ahead + line + "\n" + asked
				if got, want := desk.Session(text), modelled(text); got != want {
					t.Errorf("%q: %q, want %q", text, got, want)
				}
			}
			for place := 1; place < len(words); place++ {
				for _, n := range far {
					check(swapped(f.line, place, n))
				}
			}
			for range 100 {
				line := f.line
				for place := 1; place < len(words); place++ {
					line = swapped(line, place, d.any(far...))
				}
				check(line)
			}
		}
	}
}
