package desk_test

import (
	"fmt"
	"slices"
	"strings"
	"testing"

	"metronome/desk"
)

// 11.1: how a text is cut into lines, and a line into words; what is a number; which words are told, and how many stand behind each.

// TestTooLong: at most so many bytes, whatever they are.
func TestTooLong(t *testing.T) {
	ok := func(lines int) string { return strings.Repeat("ok\n", lines) }
	for _, c := range []struct{ name, text, want string }{
		{"line feeds", strings.Repeat("\n", mostText), ok(mostText)},
		{"blanks", strings.Repeat(" ", mostText), ok(1)},
		{"blanks, and a line feed", strings.Repeat(" ", mostText-1) + "\n", ok(1)},
		{"a long word", strings.Repeat("x", mostText), "error 3\n"},
		{"a long number", "midpoint 0 " + strings.Repeat("9", mostText-11), "error 3\n"},
		{"signs of several bytes", strings.Repeat("é", mostText/2), "error 3\n"},
		{"a line with blanks behind it", "midpoint 0 5" + strings.Repeat(" ", mostText-12), "5\n"},
		{"a line with blanks ahead", strings.Repeat(" ", mostText-12) + "midpoint 0 5", "5\n"},
		{"many lines", strings.Repeat("help\n", mostText/5), strings.Repeat(helpAnswer+"\n", mostText/5)},
		{"many numbers", "midpoint 0" + strings.Repeat(" 5", (mostText-10)/2), "5\n"},
	} {
		if len(c.text) != mostText {
			t.Fatalf("%s: %d bytes", c.name, len(c.text))
		}
		if got := desk.Session(c.text); got != c.want {
			t.Errorf("%s: %.100q, %d bytes, want %.100q, %d bytes", c.name, got, len(got), c.want, len(c.want))
		}
		for _, text := range []string{c.text + "\n", c.text + " ", c.text + "x", "\n" + c.text, c.text + c.text} {
			if got := desk.Session(text); got != "error 4\n" {
				t.Errorf("%s, and %d bytes more: %.100q, want error 4 alone", c.name, len(text)-mostText, got)
			}
		}
	}
	if got := desk.Session(strings.Repeat("é", mostText/2+1)); got != "error 4\n" {
		t.Errorf("bytes are counted, not signs: %.100q", got)
	}
	if got := desk.Session(strings.Repeat("plan 4 1 20 2 2 200\n", 100_000)); got != "error 4\n" {
		t.Errorf("a very long text: %.100q", got)
	}
}

func TestLines(t *testing.T) {
	for _, c := range []struct{ text, want string }{
		{"", "ok\n"},
		{"\n", "ok\n"},
		{"\n\n", "ok\nok\n"},
		{"\n\n\n", "ok\nok\nok\n"},
		{" ", "ok\n"},
		{" \n", "ok\n"},
		{"\n ", "ok\nok\n"},
		{" \n \n", "ok\nok\n"},
		{" \n \n ", "ok\nok\nok\n"},
		{"       ", "ok\n"},
		{"midpoint 0 5", "5\n"},
		{"midpoint 0 5\n", "5\n"},
		{"midpoint 0 5\n\n", "5\nok\n"},
		{"midpoint 0 5\n ", "5\nok\n"},
		{"\nmidpoint 0 5", "ok\n5\n"},
		{"midpoint 0 5\nmidpoint 0 6", "5\n6\n"},
		{"midpoint 0 5\nmidpoint 0 6\n", "5\n6\n"},
		{"midpoint 0 5\n\nmidpoint 0 6\n", "5\nok\n6\n"},
		{"midpoint\n0 5", "error 3\nerror 3\n"},
		{"x", "error 3\n"},
		{"x\n", "error 3\n"},
		{"x\nmidpoint 0 5\nx", "error 3\n5\nerror 3\n"},
	} {
		if got := desk.Session(c.text); got != c.want {
			t.Errorf("Session(%q): %q, want %q", c.text, got, c.want)
		}
	}
}

// TestBlanks: several between words, and at both ends, make no difference.
func TestBlanks(t *testing.T) {
	for _, f := range forms {
		for _, ahead := range f.ways() {
			want := rows(t, ahead, f.line)
			if want[0] == "error 3" || want[0] == "error 6" || len(want) != 1 {
				t.Fatalf("%q: %q", f.line, want)
			}
			for _, many := range []int{1, 2, 3, 50} {
				between := strings.Repeat(" ", many)
				line := strings.ReplaceAll(f.line, " ", between)
				is(t, ahead, line, want...)
				is(t, ahead, line+between, want...)
				is(t, ahead, between+line, want...)
				is(t, ahead, between+line+between+"\n", want...)
				is(t, ahead, between+line+between+"\n"+between, want[0], "ok")
			}
		}
	}
}

// noBlanks are signs that stand between words elsewhere, or look like it, and other bytes.
var noBlanks = []string{"\t", "\r", "\v", "\f", "\x00", "\x01", "\x1f", "\x7f", "\x80", "\xa0", "\x85", "\xff", "\u0085", "\u00a0", "\u1680", "\u2003", "\u2028", "\u2029", "\u200b", "\u3000", "\ufeff", "\ufffd", "_", ",", ";", ".", "/", "\\", "=", "\"", "'"}

// TestOtherSigns: they belong to words, and these are none of the table's, nor numbers.
func TestOtherSigns(t *testing.T) {
	for _, sign := range noBlanks {
		is(t, "", sign, "error 3")
		is(t, "", sign+sign, "error 3")
		is(t, "", " "+sign+" ", "error 3")
		for _, f := range forms {
			for _, ahead := range f.ways() {
				is(t, ahead, sign+f.line, "error 3")
				is(t, ahead, sign+" "+f.line, "error 3")
				if f.name != "put" {
					is(t, ahead, f.line+sign, "error 3")
					is(t, ahead, f.line+" "+sign, "error 3")
				}
				if strings.Contains(f.line, " ") {
					is(t, ahead, strings.Replace(f.line, " ", sign, 1), "error 3")
					is(t, ahead, strings.ReplaceAll(f.line, " ", sign), "error 3")
				}
			}
		}
	}
	is(t, "", "help\r\nhelp\r\n", "error 3", "error 3")
}

// TestEachLine: of the table, each is known, and is no error where it may be told.
func TestEachLine(t *testing.T) {
	want := map[string]string{"plan": "plan", "slot": "4", "link": "1", "start": "start", "put": "put", "receive": "is x", "lose": "lose", "read": "read", "drift": "drift", "mode": "mode", "round": "2", "clocks": "7 7 7 7", "spread": "0", "members": "15", "midpoint": "5", "local": "106", "real": "13", "clear": "clear", "bytes": "29", "help": helpAnswer}
	for _, f := range forms {
		for _, ahead := range f.ways() {
			is(t, ahead, f.line, want[f.name])
		}
	}
}

// TestNoSuchWord: great letters, parts of words, and words that chapters have, but no line.
func TestNoSuchWord(t *testing.T) {
	words := []string{"x", "ok", "error", "is", "frozen", "window", "frame", "stop", "quit", "check", "encode", "decode", "play", "rounds", "send", "take", "guard", "back", "0", "-1", "#", "?", "plan:", "\"plan\"", "näh", "\xff\xfe", "pl\x00an"}
	for _, f := range forms {
		words = append(words, strings.ToUpper(f.name), strings.ToUpper(f.name[:1])+f.name[1:], f.name[:len(f.name)-1]+strings.ToUpper(f.name[len(f.name)-1:]), f.name+f.name)
		for i := 1; i < len(f.name); i++ {
			words = append(words, f.name[:i], f.name[i:])
		}
	}
	behind := []string{"", " 0", " 0 0", " 0 0 0", " 0 0 0 0", " 0 0 0 0 0", " 0 0 0 0 0 0", " x"}
	for _, word := range slices.DeleteFunc(words, isLine) {
		for _, rest := range behind {
			is(t, "", word+rest, "error 3")
			is(t, edge, word+rest, "error 3")
		}
	}
}

// TestNearlySuchWord: one byte more, less, or another one.
func TestNearlySuchWord(t *testing.T) {
	for _, f := range forms {
		var near []string
		for i := range len(f.name) + 1 {
			for b := range 256 {
				sign := string([]byte{byte(b)})
				if sign == " " || sign == "\n" {
					continue
				}
				near = append(near, f.name[:i]+sign+f.name[i:])
				if i < len(f.name) {
					near = append(near, f.name[:i]+sign+f.name[i+1:])
				}
			}
			if i < len(f.name) {
				near = append(near, f.name[:i]+f.name[i+1:])
			}
		}
		for l := range slices.Chunk(slices.DeleteFunc(near, isLine), 200) {
			var text []string
			for _, word := range l {
				text = append(text, swapped(f.line, 0, word))
			}
			for _, ahead := range f.ways() {
				is(t, ahead, strings.Join(text, "\n"), slices.Repeat([]string{"error 3"}, len(l))...)
			}
		}
	}
}

// TestHowManyWords: one too few, and one too many, of each line; and many more.
func TestHowManyWords(t *testing.T) {
	for _, f := range forms {
		told := len(strings.TrimSuffix(f.behind, "+"))
		for _, ahead := range f.ways() {
			for many := range 40 {
				line := f.name + strings.Repeat(" 1", many)
				got := rows(t, ahead, line)
				right := many == told || many > told && strings.HasSuffix(f.behind, "+")
				if len(got) != 1 || (got[0] == "error 3") == right {
					t.Errorf("%q: %q, want %d words behind (%s)", line, got, told, f.behind)
				}
			}
		}
	}
}

// TestWordsFewAndMany: of the lines that have one word at least.
func TestWordsFewAndMany(t *testing.T) {
	ones := strings.Repeat(" 1", 1000)
	script(t, "", `
midpoint => error 3
midpoint 0 => error 1
midpoint -1 => error 1
midpoint 0 3 => 3
midpoint`+ones+` => 1
start => error 3
start 0 => error 1
plan 1 0 1 0 0 1 => plan
start => error 3
start 0 => error 7
start 0`+ones+` => error 7
start 0 0 => start
drift => error 3
drift 0 => drift
drift`+ones+` => drift
mode => error 3
mode 0 => mode
mode`+ones+` => mode
round => 1
clocks => 0
`)
}

// rightNumbers are words that are numbers, of 64 bits.
var rightNumbers = []string{"0", "1", "-1", "9", "-9", "10", "-10", "100", "1099511627776", "-1099511627777", "9223372036854775806", "9223372036854775807", "-9223372036854775807", "-9223372036854775808"}

// wrongNumbers are words that are none.
var wrongNumbers = []string{
	"00", "01", "007", "-00", "-01", "-0", "-", "--", "--1", "+", "+0", "+1", "+-1", "-+1", "1-", "1+", "1-1", "0-",
	"9223372036854775808", "-9223372036854775809", "18446744073709551615", "18446744073709551616", "18446744073709551617", "-18446744073709551616", "99999999999999999999", "10000000000000000000000000000000000000000", "-99999999999999999999", "09223372036854775807",
	"x", "1x", "x1", "0x1", "0b1", "0o7", "1e3", "1.0", "1.", ".5", "1,000", "1_000", "1'0", "inf", "nan", "a", "A", "ten", "_", "_1", "1_",
	"\xb1", "1\x00", "\x001", "1\t", "\t1", "1\r", "\xff", "é", "½", "²", "\u0661", "\uff11", "\u22121", "\u20131", "1\u0301",
}

// TestNumbers: at each place of each line, in each state in which it may be told.
func TestNumbers(t *testing.T) {
	for _, f := range forms {
		words := strings.Fields(f.line)
		for place := 1; place < len(words); place++ {
			if f.name == "put" && place == 2 {
				continue
			}
			for _, ahead := range f.ways() {
				for _, word := range rightNumbers {
					line := swapped(f.line, place, word)
					if got := rows(t, ahead, line); len(got) != 1 || got[0] == "error 3" || got[0] == "error 6" || got[0] == "" {
						t.Errorf("%q: %q, but all words are numbers", line, got)
					}
				}
				for _, word := range wrongNumbers {
					is(t, ahead, swapped(f.line, place, word), "error 3")
				}
			}
		}
	}
}

// TestNumbersTell: a number is what its digits say.
func TestNumbersTell(t *testing.T) {
	for _, n := range []int{0, 1, -1, 7, 10, -10, 99, -123, 1 << 31, 1<<31 - 1, -1 << 31, 1 << 32, 1<<32 + 5, 1 << 40, -1 << 40} {
		is(t, "", fmt.Sprintf("midpoint 0 %d", n), fmt.Sprint(n))
	}
	for _, n := range []int{1<<40 + 1, -1<<40 - 1, least, least + 1, greatest, greatest - 1} {
		is(t, "", fmt.Sprintf("midpoint 0 %d", n), "error 2")
	}
}

// TestPutsWord: the second word behind put may be anything, a number or none; the first one may not.
func TestPutsWord(t *testing.T) {
	ahead := four + "start 0 0 0 0 0\n"
	words := append([]string{"x", "put", "a\tb", "=>", "=", "\u00a0", "ok", "error", strings.Repeat("x", mostData), strings.Repeat("\xff", mostData), strings.Repeat("é", mostData/2)}, rightNumbers...)
	words = append(append(words, wrongNumbers...), noBlanks...)
	for _, word := range words {
		if len(word) > mostData {
			is(t, ahead, "put 0 "+word, "error 4")
			continue
		}
		is(t, ahead, "put 0 "+word+"\nround\nreceive 2 0\nreceive 2 0", "put", "1", "is "+word, "error 8")
		is(t, ahead, "  put   0   "+word+"  \nround\nreceive 1 0", "put", "1", "is "+word)
		is(t, ahead, "put "+word, "error 3")
		is(t, ahead, "put 0 "+word+" "+word, "error 3")
		is(t, ahead, "put 0 "+word+" 0", "error 3")
		if !slices.Contains(rightNumbers, word) {
			is(t, ahead, "put "+word+" 0", "error 3")
			is(t, ahead, "put "+word+" "+word, "error 3")
		}
	}
	script(t, ahead, `
put => error 3
put 0 => error 3
put 0 0 => put
put 0 0 0 => error 3
put 1 0 => error 2
put -1 0 => error 2
put x 0 => error 3
put 01 0 => error 3
put 0 01 => put
round => 1
receive 1 0 => is 0
round => 2
receive 1 0 => is 01
receive 1 0 => error 8
`)
}
