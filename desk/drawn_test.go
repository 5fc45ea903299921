package desk

import (
	"fmt"
	"strings"
	"testing"
)

// beginning is the lines ahead of a drawn game, mostly right ones.
func (d *die) beginning() []string {
	var l []string
	if d.upTo(4) > 0 {
		l = append(l, fmt.Sprintf("law %s %d %d %d %d", d.many(3, 500, 3), d.upTo(3)*32768, d.upTo(3)*32768, 1+d.upTo(6), 2+d.upTo(6)))
	}
	for range d.upTo(9) {
		size := 16384 * (1 + d.upTo(4))
		if d.upTo(2) == 0 {
			l = append(l, fmt.Sprintf("ball %d %d %s %s %d %d", d.upTo(4), size, d.many(3, 40000, 5), d.many(3, 3000, 4), d.upTo(3)*65536, d.upTo(4)))
		} else {
			l = append(l, fmt.Sprintf("block %d %d 65536 %d %s %d %d", d.upTo(4), size, size, d.many(3, 40000, 5), d.upTo(3)*65536, d.upTo(4)))
		}
	}
	for range d.upTo(4) {
		l = append(l, fmt.Sprintf("player %d %d %s %d %d", d.upTo(9), d.upTo(5), d.many(3, 40000, 3), d.upTo(5)*65536, 1+d.upTo(3)))
	}
	if d.upTo(15) == 0 {
		l = append(l, d.one("law 0 0 0 0 0 0 5", "ball 9 1 0 0 0 0 0 0 0 0", "block 0 0 0 0 0 0 0 0 0", "player -1 0 0 0 0 0 0", "player 0 0 0 0 0 -1 0", "ball 0 0 0 0 0 0 0 0 0 0"))
	}
	return append(l, fmt.Sprintf("start %d %d", d.upTo(9), d.upTo(4)))
}

// going is a line of a drawn game.
func (d *die) going() string {
	switch d.upTo(12) {
	case 0, 1, 2:
		return "tick"
	case 3, 4:
		return fmt.Sprintf("push %d %d %s", d.upTo(4), d.upTo(8), d.many(3, 2000, 3))
	case 5:
		return fmt.Sprintf("remove %d %d", d.upTo(4), d.upTo(30))
	case 6:
		return fmt.Sprintf("lose %d", d.upTo(4))
	case 7:
		return fmt.Sprintf("has %d", d.upTo(4))
	case 8:
		return fmt.Sprintf("sees %d", d.upTo(4))
	case 9:
		return d.one("bodies", "digest", "help", "", "  ")
	}
	return d.odd()
}

// odd is a line that may be wrong, or come at the wrong time.
func (d *die) odd() string {
	l := d.one("tick 1", "x", "has 01", "has -0", "has -1", "push 0 1 0 0", "push 0 1 6553601 0 0", "push 0 -1 0 0 0", "remove 0 70368744177665", "law 0 0 0 0 0 1 1", "start 5 5", "ball 0 1 0 0 0 0 0 0 0 0", "block 0 1 1 1 0 0 0 0 0", "player 1 0 0 0 0 1 1", " digest", "sees 9223372036854775808", "bodies ", "\tdigest")
	return strings.Repeat(" ", d.upTo(2)) + l + strings.Repeat(" ", d.upTo(2))
}

// game is the lines of a drawn game.
func (d *die) game() []string {
	l := d.beginning()
	for range d.upTo(60) {
		l = append(l, d.going())
	}
	return l
}

// Promise 13.1: drawn games are answered just as the model answers them, which is the chapter told once more.
func TestDrawnGames(t *testing.T) {
	d := die(1)
	kinds := map[string]int{}
	for range 400 {
		text := strings.Join(d.game(), "\n")
		for range d.upTo(3) {
			text += d.one("\n", "\nclear\n", "\n\n") + strings.Join(d.game(), "\n")
		}
		text += d.one("", "\n", "\n\n")
		got, want := Session(text), newModel().session(text)
		if got != want {
			t.Fatalf("%s\nis answered\n%s\nnot\n%s", text, got, want)
		}
		for _, a := range strings.Split(got, "\n") {
			kinds[kind(a)]++
		}
	}
	for _, k := range []string{"ok", "law", "number", "start", "asked", "lose", "has", "list", "clear", "help", "error 1", "error 2", "error 3", "error 4", "error 6"} {
		if kinds[k] < 20 {
			t.Errorf("%d answers are of the kind %q: too few", kinds[k], k)
		}
	}
}

// kind is what an answer looks like.
func kind(a string) string {
	_, number := asNumber(a)
	switch {
	case number:
		return "number"
	case a == helps:
		return "help"
	case strings.Contains(a, ": "):
		return "has"
	case strings.Count(a, " ") > 1:
		return "list"
	}
	return a
}

// Promise 13.1: an error changes nothing: lines that are answered by one may be left out.
func TestErrorsChangeNothing(t *testing.T) {
	d := die(2)
	wrong := 0
	for range 300 {
		l := d.game()
		all := answers(t, strings.Join(l, "\n")+"\n")
		var right, want []string
		for i, a := range all {
			if strings.HasPrefix(a, "error") {
				wrong++
				continue
			}
			right, want = append(right, l[i]), append(want, a)
		}
		if len(right) == 0 {
			continue
		}
		if got := answers(t, strings.Join(right, "\n")+"\n"); strings.Join(got, "\n") != strings.Join(want, "\n") {
			t.Fatalf("%q is answered %q; without its errors %q", l, all, got)
		}
	}
	if wrong < 500 {
		t.Errorf("%d lines were wrong: too few", wrong)
	}
}

// Promise 13.1: behind clear a game is answered as one that is the first.
func TestClearBetween(t *testing.T) {
	d := die(3)
	for range 200 {
		a, b := strings.Join(d.game(), "\n")+"\n", strings.Join(d.game(), "\n")+"\n"
		if got, want := Session(a+"clear\n"+b), Session(a)+"clear\n"+Session(b); got != want {
			t.Fatalf("%sclear\n%sis answered\n%snot\n%s", a, b, got, want)
		}
	}
}

// What comes is what was (11, 12): what a client has of a step is what its player saw then, whatever was lost.
func TestWhatComesIsWhatWas(t *testing.T) {
	d := die(4)
	late, told := 0, 0
	for range 200 {
		g := newGame()
		deeds := g.deeds()
		for _, line := range d.beginning() {
			g.answer(deeds, line)
		}
		if g.server == nil {
			continue
		}
		saw := make([][]string, len(g.seats))
		for k := range saw {
			saw[k] = []string{"0: "}
		}
		for range 150 {
			line := d.going()
			g.answer(deeds, line)
			if line != "tick" {
				continue
			}
			for k := range g.seats {
				view := g.answer(deeds, fmt.Sprint("sees ", k))
				saw[k] = append(saw[k], fmt.Sprint(len(saw[k]), ": ", view))
				has := g.answer(deeds, fmt.Sprint("has ", k))
				var step int
				fmt.Sscan(has, &step)
				if has != saw[k][step] {
					t.Fatalf("player %d has %q, and saw %q", k, has, saw[k][step])
				}
				if step < len(saw[k])-1 {
					late++
				} else if view != "" {
					told++
				}
			}
		}
	}
	if late < 100 || told < 100 {
		t.Errorf("%d views came late, %d at once: too few", late, told)
	}
}
