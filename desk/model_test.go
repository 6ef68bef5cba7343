package desk_test

import (
	"fmt"
	"math/big"
	"strings"

	"metronome/agree"
	"metronome/api"
	"metronome/cluster"
	"metronome/plan"
	"metronome/ticks"
)

// A second reckoning of a session, by another hand than the program's: it goes through a text byte by byte, takes numbers as ones of any size, asks the document's table (forms) what may be told, and calls the layers that a line names; these have tests of their own.

// linesOf is a text's lines.
func linesOf(text string) (l []string) {
	line := ""
	for i := range len(text) {
		if text[i] != '\n' {
			line += text[i : i+1]
		} else if i < len(text)-1 {
			l = append(l, line)
			line = ""
		}
	}
	return append(l, line)
}

// wordsOf is a line's words.
func wordsOf(line string) (l []string) {
	in := false
	for i := range len(line) {
		switch blank := line[i] == ' '; {
		case blank:
			in = false
		case in:
			l[len(l)-1] += line[i : i+1]
		default:
			l = append(l, line[i:i+1])
			in = true
		}
	}
	return l
}

// numberOf is a word's number, if it is one.
func numberOf(word string) (int, bool) {
	digits := strings.TrimPrefix(word, "-")
	if digits == "" || word == "-0" || digits[0] == '0' && len(digits) > 1 || strings.Trim(digits, "0123456789") != "" {
		return 0, false
	}
	n, ok := new(big.Int).SetString(word, 10)
	if !ok || !n.IsInt64() {
		return 0, false
	}
	return int(n.Int64()), true
}

// model is what there is between two lines.
type model struct {
	plan api.Plan
	c    *cluster.Cluster
	next cluster.Round
}

func newModel() *model {
	return &model{plan: api.Plan{Frame: 1}}
}

// failed is how an error is answered.
func failed(e api.Errno) string {
	return fmt.Sprintf("error %d", int(e))
}

// modelled is what a text is answered.
func modelled(text string) string {
	if len(text) > mostText {
		return failed(api.ErrLimit) + "\n"
	}
	m, told := newModel(), ""
	for _, line := range linesOf(text) {
		told += m.line(line) + "\n"
	}
	return told
}

// line is what a line is answered.
func (m *model) line(line string) string {
	words := wordsOf(line)
	if len(words) == 0 {
		return "ok"
	}
	for _, f := range forms {
		if f.name != words[0] {
			continue
		}
		n, ok := f.numbers(words[1:])
		if !ok {
			return failed(api.ErrForm)
		}
		if f.when == notStarted && m.c != nil || f.when == started && m.c == nil {
			return failed(api.ErrState)
		}
		told, err := m.does(f.name, words, n)
		if err != nil {
			return failed(api.Tell(err))
		}
		return told
	}
	return failed(api.ErrForm)
}

// numbers is those behind the first word, if all is as the form asks; of any word 0.
func (f form) numbers(words []string) (l []int, ok bool) {
	behind := f.behind
	if first, more := strings.CutSuffix(behind, "+"); more {
		behind = first + strings.Repeat(first, max(0, len(words)-1))
	}
	if len(words) != len(behind) {
		return nil, false
	}
	for i, word := range words {
		n, ok := numberOf(word)
		if behind[i] == 'w' {
			n, ok = 0, true
		}
		if !ok {
			return nil, false
		}
		l = append(l, n)
	}
	return l, true
}

// does is what a line of that form does and tells.
func (m *model) does(name string, words []string, n []int) (string, error) {
	switch name {
	case "plan":
		slots, links := m.plan.Slots, m.plan.Links
		m.plan = api.Plan{Nodes: n[0], Faulty: n[1], Skew: n[2], Jitter: n[3], Drift: n[4], Round: n[5], Slots: slots, Links: links, Frame: 1}
		return "plan", nil
	case "slot":
		if len(m.plan.Slots) == mostSlots {
			return "", api.ErrLimit
		}
		m.plan.Slots = append(m.plan.Slots, api.Slot{Node: n[0], Span: api.Span{From: n[1], To: n[2]}})
		return fmt.Sprint(len(m.plan.Slots) - 1), nil
	case "link":
		if len(m.plan.Links) == mostLinks {
			return "", api.ErrLimit
		}
		m.plan.Links = append(m.plan.Links, api.Link{From: n[0], To: n[1], Bag: n[2], Queue: n[3]})
		return fmt.Sprint(len(m.plan.Links) - 1), nil
	case "bytes":
		b, err := plan.Encode(m.plan)
		return fmt.Sprint(len(b)), err
	case "start":
		c, err := cluster.New(m.plan, n[0], n[1:])
		if err == nil {
			m.c, m.next = c, cluster.Round{}
		}
		return "start", err
	case "midpoint":
		x, err := agree.Midpoint(n[1:], n[0])
		return fmt.Sprint(x), err
	case "local":
		x, err := ticks.Clock{From: n[0], Show: n[1], Num: n[2], Den: n[3]}.Local(n[4])
		return fmt.Sprint(x), err
	case "real":
		x, err := ticks.Clock{From: n[0], Show: n[1], Num: n[2], Den: n[3]}.Real(n[4])
		return fmt.Sprint(x), err
	case "clear":
		*m = *newModel()
		return "clear", nil
	case "help":
		return helpAnswer, nil
	}
	return m.asks(name, words, n)
}

// asks is likewise, of lines that ask for a cluster.
func (m *model) asks(name string, words []string, n []int) (string, error) {
	switch name {
	case "put":
		return "put", m.c.Put(n[0], words[2])
	case "receive":
		data, err := m.c.Receive(n[0], n[1])
		return "is " + data, err
	case "lose":
		m.next.Losses = append(m.next.Losses, cluster.Loss{Slot: n[0], Channel: n[1], To: n[2]})
	case "read":
		m.next.Readings = append(m.next.Readings, cluster.Reading{Node: n[0], Of: n[1], Is: n[2]})
	case "drift":
		m.next.Drifts = n
	case "mode":
		m.next.Modes = n
	case "round":
		err := m.c.Play(m.next)
		if err == nil {
			m.next = cluster.Round{}
		}
		return fmt.Sprint(m.c.Rounds()), err
	case "clocks":
		return strings.Trim(fmt.Sprint(m.c.Clocks()), "[]"), nil
	case "spread":
		return fmt.Sprint(m.c.Spread()), nil
	case "members":
		members, frozen, err := m.c.Members(n[0])
		if frozen {
			return fmt.Sprintf("%d frozen", members), err
		}
		return fmt.Sprint(members), err
	}
	return name, nil // of those that are to happen in the next round
}
