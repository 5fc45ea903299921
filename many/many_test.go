package many

import (
	"fmt"
	"slices"
	"strings"
	"testing"

	"gyre/api"
	"gyre/desk"
	"gyre/plain"
)

const (
	mostTexts   = 50
	mostWorkers = 16
)

// game is a text of so many ticks: the longer, the later is its answer there.
func game(ticks int) string {
	return fmt.Sprintf("law 0 %d 0 32768 32768 6 9\n", -ticks) +
		"ball 1 65536 0 0 0 0 0 0 65536 1\nball 2 65536 90000 9000 0 -500 0 0 65536 1\nblock 0 655360 65536 655360 0 -200000 0 0 1\n" +
		"player 7 0 0 0 0 65536000 1\nplayer 8 1 0 0 0 65536000 1\nstart 5 2\npush 0 1 300 0 0\n" +
		strings.Repeat("tick\n", ticks) + "has 0\nsees 1\nbodies\ndigest"
}

// games are texts that are all answered otherwise, long and short ones by turns.
func games(many int) []string {
	var l []string
	for k := range many {
		switch k % 5 {
		case 0:
			l = append(l, game(k))
		case 1:
			l = append(l, strings.Repeat("\n", k))
		case 2:
			l = append(l, game(many-k)+"\nhelp\nx")
		case 3:
			l = append(l, strings.Repeat("player 1 0 0 0 0 1 1\n", k%12))
		case 4:
			l = append(l, strings.Repeat(" ", api.MaxText+k-20))
		}
	}
	return l
}

// each is the answers of sessions, one behind the other.
func each(texts []string) []string {
	var l []string
	for _, t := range texts {
		l = append(l, desk.Session(t))
	}
	return l
}

// Promise 14.1: Session of each, in order, however many workers there are.
func TestInOrder(t *testing.T) {
	for _, many := range []int{0, 1, 2, 3, 15, 16, 17, mostTexts - 1, mostTexts} {
		texts := games(many)
		want := each(texts)
		for workers := 1; workers <= mostWorkers; workers++ {
			got, err := All(texts, workers)
			if err != nil || !slices.Equal(got, want) {
				t.Fatalf("All of %d texts by %d workers: %v, %.300q, not %.300q", many, workers, err, got, want)
			}
		}
	}
}

// Promise 14.1: a text that is wrong is answered so, and is no error; no text is no error.
func TestWrongTexts(t *testing.T) {
	got, err := All([]string{"x", "", strings.Repeat("x", 20001), "tick", "has 0\nhelp 1"}, 3)
	want := []string{"error 3\n", "ok\n", "error 4\n", "error 6\n", "error 6\nerror 3\n"}
	if err != nil || !slices.Equal(got, want) {
		t.Errorf("All = %q, %v, not %q", got, err, want)
	}
	if got, err := All(nil, 1); err != nil || len(got) != 0 {
		t.Errorf("All of no text = %q, %v", got, err)
	}
}

// Promise 14.1: ErrLimit: more than 50 texts, or workers is not from 1 to 16.
func TestLimits(t *testing.T) {
	for _, c := range []struct {
		texts, workers int
		wrong          bool
	}{
		{mostTexts, 1, false},
		{mostTexts, mostWorkers, false},
		{mostTexts + 1, 1, true},
		{mostTexts + 1, mostWorkers, true},
		{mostTexts + 1, 0, true},
		{1000, 4, true},
		{0, 1, false},
		{0, mostWorkers, false},
		{0, 0, true},
		{0, mostWorkers + 1, true},
		{3, 0, true},
		{3, -1, true},
		{3, mostWorkers, false},
		{3, mostWorkers + 1, true},
		{3, 1<<63 - 1, true},
		{3, -1 << 63, true},
	} {
		got, err := All(make([]string, c.texts), c.workers)
		e, bare := plain.Bare(err)
		if c.wrong && (e != api.ErrLimit || !bare || got != nil) {
			t.Errorf("All of %d texts by %d workers = %.60q, %v, not ErrLimit", c.texts, c.workers, got, err)
		}
		if !c.wrong && (err != nil || len(got) != c.texts) {
			t.Errorf("All of %d texts by %d workers = %.60q, %v", c.texts, c.workers, got, err)
		}
	}
}

// P4: the texts stay as they are, what stands behind them too; the answers are the caller's.
func TestMemory(t *testing.T) {
	all := games(20)
	kept := slices.Clone(all)
	got, _ := All(all[:10], 4)
	want := each(kept[:10])
	if !slices.Equal(all, kept) {
		t.Error("the texts were written into")
	}
	clear(all)
	if !slices.Equal(got, want) {
		t.Error("the answers share memory with the texts")
	}
	again, _ := All(kept[:10], 4)
	clear(got)
	_ = append(got[:0], make([]string, cap(got))...)
	if !slices.Equal(again, want) {
		t.Error("answers of two calls share memory")
	}
}
