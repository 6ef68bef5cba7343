package many_test

import (
	"fmt"
	"math"
	"runtime"
	"slices"
	"strings"
	"testing"
	"time"

	"metronome/api"
	"metronome/desk"
	"metronome/many"
	"metronome/plain"
)

// 12.1, and what is to be true of the whole, 7: nothing hangs on how many workers there are.

// Bounds by another hand.
const (
	mostTexts   = 50
	mostWorkers = 16
)

// bus is a text of a cluster whose answers hang on a number.
func bus(k int) string {
	var b strings.Builder
	fmt.Fprintf(&b, "plan 4 1 20 2 2 200\nslot 0 10 20\nslot 1 50 60\nslot 3 130 140\nlink 0 6 100 4\nstart 8 %d %d %d 0\n", k, k+1, k+2)
	for i := range 1 + k%7 {
		fmt.Fprintf(&b, "put 0 m%d.%d\ndrift %d %d\nlose %d 0 15\nround\nclocks\nmembers %d\nreceive 1 0\n", k, i, k%3, -i%3, k%4, k%5)
	}
	return b.String()
}

// texts are so many, each with another answer; some take long, some are answered at once, and some are wrong.
func texts(many int) (l []string) {
	for k := range many {
		switch k % 5 {
		case 1:
			l = append(l, fmt.Sprintf("midpoint 0 %d", k))
		case 2:
			l = append(l, bus(k)+strings.Repeat("round\n", 40*(k%4))+"clocks")
		case 3:
			l = append(l, strings.Repeat("x\n", k)+fmt.Sprintf("local 0 %d 1 1 5\n", k))
		case 4:
			l = append(l, fmt.Sprintf("midpoint 1 %d \xff", k)+strings.Repeat("\n", k))
		default:
			l = append(l, bus(k))
		}
	}
	return l
}

// oneByOne is what Session says of each.
func oneByOne(l []string) (answers []string) {
	for _, text := range l {
		answers = append(answers, desk.Session(text))
	}
	return answers
}

// lent is a copy of a list with more behind its length. Asked later, back says whether all of it reads as it did.
func lent(l []string) (list []string, back func() bool) {
	all := append(slices.Clone(l), "behind", "the list")
	before := slices.Clone(all)
	return all[:len(l)], func() bool { return slices.Equal(all, before) }
}

// tells checks All of texts that may be.
func tells(t *testing.T, l []string, workers int, want []string) {
	t.Helper()
	given, back := lent(l)
	got, err := many.All(given, workers)
	if err != nil || len(got) != len(want) {
		t.Fatalf("All of %d texts, %d workers: %d answers, %v, want %d", len(l), workers, len(got), err, len(want))
	}
	for i := range want {
		if got[i] != want[i] {
			t.Errorf("All of %d texts, %d workers: text %d, %.200q: %.200q, want %.200q", len(l), workers, i, l[i], got[i], want[i])
		}
	}
	if !back() {
		t.Errorf("All of %d texts, %d workers: what was handed in reads otherwise afterwards", len(l), workers)
	}
}

// refuses checks that All tells ErrLimit, and nothing beside it.
func refuses(t *testing.T, l []string, workers int) {
	t.Helper()
	given, back := lent(l)
	got, err := many.All(given, workers)
	if e, place := plain.Place(err); e != api.ErrLimit || place != -1 || got != nil {
		t.Errorf("All of %d texts, %d workers: %.200q, error %d at %d, want %d alone", len(l), workers, got, e, place, api.ErrLimit)
	}
	if !back() {
		t.Errorf("All of %d texts, %d workers: what was handed in reads otherwise afterwards", len(l), workers)
	}
}

// TestAll: by hand.
func TestAll(t *testing.T) {
	l := []string{"midpoint 0 5", "", "plan 1 0 1 0 0 1\nstart 0 7\nround\nclocks", "clocks", strings.Repeat("\n", api.MaxText+1)}
	want := []string{"5\n", "ok\n", "plan\nstart\n1\n7\n", "error 6\n", "error 4\n"}
	for workers := 1; workers <= mostWorkers; workers++ {
		tells(t, l, workers, want)
	}
}

// TestNoText: none is no error; with wrong workers it is.
func TestNoText(t *testing.T) {
	for workers := 1; workers <= mostWorkers; workers++ {
		tells(t, nil, workers, nil)
		tells(t, []string{}, workers, nil)
		if got, err := many.All(nil, workers); len(got) != 0 || err != nil {
			t.Errorf("All of nil: %q, %v", got, err)
		}
	}
	for _, workers := range []int{0, -1, mostWorkers + 1} {
		refuses(t, nil, workers)
		if got, err := many.All(nil, workers); got != nil || api.Tell(err) != api.ErrLimit {
			t.Errorf("All of nil, %d workers: %q, %v", workers, got, err)
		}
	}
}

// TestHowMany: each number of texts by each number of workers, fewer and more than there are texts.
func TestHowMany(t *testing.T) {
	all := texts(mostTexts)
	want := oneByOne(all)
	for n := range mostTexts + 1 {
		for workers := 1; workers <= mostWorkers; workers++ {
			tells(t, all[:n], workers, want[:n])
		}
	}
}

func TestTooManyTexts(t *testing.T) {
	for _, n := range []int{mostTexts + 1, mostTexts + 2, 100, 1 << 16} {
		l := slices.Repeat([]string{"help"}, n)
		for _, workers := range []int{math.MinInt, -1, 0, 1, mostWorkers, mostWorkers + 1, math.MaxInt} {
			refuses(t, l, workers)
		}
	}
}

func TestWrongWorkers(t *testing.T) {
	for _, workers := range []int{math.MinInt, math.MinInt + 1, math.MinInt32, -1 << 32, -16, -2, -1, 0, 17, 18, 50, 1 << 16, 1<<32 + 1, math.MaxInt32, math.MaxInt - 1, math.MaxInt} {
		for _, n := range []int{0, 1, 2, 17, mostTexts} {
			refuses(t, texts(n), workers)
		}
	}
}

// TestAlike: texts that are alike are each answered, as if they were alone.
func TestAlike(t *testing.T) {
	for _, text := range []string{"", "\n", "x", bus(3), "slot 0 0 1\nslot 0 0 1", strings.Repeat("\n", api.MaxText), strings.Repeat("\n", api.MaxText+1)} {
		want := desk.Session(text)
		for _, n := range []int{1, 2, mostTexts} {
			for _, workers := range []int{1, 2, 7, mostWorkers} {
				tells(t, slices.Repeat([]string{text}, n), workers, slices.Repeat([]string{want}, n))
			}
		}
	}
}

// TestOrder: whatever the order of the texts, answers stand in it; also where the first ones take longest.
func TestOrder(t *testing.T) {
	l := texts(mostTexts)
	slow := bus(1) + strings.Repeat("round\n", 2000)
	for turn := range mostTexts {
		turned := append(slices.Clone(l[turn:]), l[:turn]...)
		turned[0], turned[1] = slow, slow+"clocks"
		want := oneByOne(turned)
		for _, workers := range []int{1, 3, mostWorkers} {
			tells(t, turned, workers, want)
		}
		slices.Reverse(turned)
		slices.Reverse(want)
		tells(t, turned, mostWorkers, want)
	}
}

// TestAgain: again and again the same, by however many workers.
func TestAgain(t *testing.T) {
	l := texts(mostTexts)
	want := oneByOne(l)
	for k := range 200 {
		tells(t, l, 1+k%mostWorkers, want)
	}
}

// TestAnswersAreTheCallers: what comes out shares no memory with what was handed in, nor with other answers.
func TestAnswersAreTheCallers(t *testing.T) {
	l := texts(20)
	want := oneByOne(l)
	for workers := 1; workers <= mostWorkers; workers++ {
		given, back := lent(l)
		a, _ := many.All(given, workers)
		b, _ := many.All(given, workers)
		for i := range a[:cap(a)] {
			a[:cap(a)][i] = "written over"
		}
		if !slices.Equal(b, want) || !back() {
			t.Errorf("%d workers: written into one answer, another list is another one", workers)
		}
		clear(given)
		if !slices.Equal(b, want) {
			t.Errorf("%d workers: written into what was handed in, the answer is another one", workers)
		}
	}
}

// TestWorkersEnd: none of them is left behind. They are waited for, for one that is done needs a moment until it is gone.
func TestWorkersEnd(t *testing.T) {
	before := runtime.NumGoroutine()
	for workers := -1; workers <= mostWorkers+1; workers++ {
		for _, n := range []int{0, 1, 5, mostTexts, mostTexts + 1} {
			_, _ = many.All(texts(n), workers)
		}
	}
	for range 500 {
		if runtime.NumGoroutine() <= before {
			return
		}
		time.Sleep(10 * time.Millisecond)
	}
	t.Errorf("%d goroutines, before there were %d", runtime.NumGoroutine(), before)
}

// TestAtTheSameTime: All may be asked by several at once, each with texts of its own.
func TestAtTheSameTime(t *testing.T) {
	l := texts(mostTexts)
	want := oneByOne(l)
	done := make(chan bool)
	for k := range mostWorkers {
		go func() {
			got, err := many.All(l[k:k+20], 1+k)
			done <- err == nil && slices.Equal(got, want[k:k+20])
		}()
	}
	for range mostWorkers {
		if !<-done {
			t.Error("All beside others answers otherwise")
		}
	}
}
