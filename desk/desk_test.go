package desk

import (
	"math"
	"slices"
	"strings"
	"testing"
)

// Promise 13.1: a text of more than MaxText bytes is answered by one error.
func TestTooLong(t *testing.T) {
	for _, c := range []struct{ text, want string }{
		{strings.Repeat(" ", longest), "ok\n"},
		{strings.Repeat(" ", longest+1), "error 4\n"},
		{strings.Repeat("x", longest), "error 3\n"},
		{strings.Repeat("x", longest+1), "error 4\n"},
		{strings.Repeat("\n", longest), strings.Repeat("ok\n", longest)},
		{strings.Repeat("\n", longest+1), "error 4\n"},
		{strings.Repeat("help\n", longest/5) + "\n", "error 4\n"},
		{strings.Repeat("\u00e4", longest/2), "error 3\n"},
		{strings.Repeat("\u00e4", longest/2) + " ", "error 4\n"},
		{strings.Repeat("x", 10*longest), "error 4\n"},
	} {
		if got := Session(c.text); got != c.want {
			t.Errorf("Session of %d bytes (%.20q) = %.60q, not %.60q", len(c.text), c.text, got, c.want)
		}
	}
	text := strings.Repeat("help\n", longest/5)
	if got := Session(text); got != strings.Repeat(helps+"\n", longest/5) {
		t.Errorf("a text of just so many bytes as may be is answered %.60q", got)
	}
}

// Promise 13.1: lines are cut at line feeds; one at the text's end is left out; each line is answered by one.
func TestLines(t *testing.T) {
	for _, c := range []struct{ text, want string }{
		{"", "ok\n"},
		{"\n", "ok\n"},
		{"\n\n", "ok\nok\n"},
		{"\n\n\n", "ok\nok\nok\n"},
		{" ", "ok\n"},
		{" \n", "ok\n"},
		{" \n ", "ok\nok\n"},
		{"clear", "clear\n"},
		{"clear\n", "clear\n"},
		{"clear\n\n", "clear\nok\n"},
		{"\nclear", "ok\nclear\n"},
		{"clear\nx\n\nclear", "clear\nerror 3\nok\nclear\n"},
		{"clear\r\nclear", "error 3\nclear\n"},
		{"clear\rclear", "error 3\n"},
		{"\r\n", "error 3\n"},
	} {
		if got := Session(c.text); got != c.want {
			t.Errorf("Session(%q) = %q, not %q", c.text, got, c.want)
		}
	}
}

// Lines may be left ahead of the last one, and gone through again.
func TestSomeLines(t *testing.T) {
	l := lines("a\nb\nc\n")
	for range 2 {
		var got []string
		for line := range l {
			if got = append(got, line); line == "b" {
				break
			}
		}
		if !slices.Equal(got, []string{"a", "b"}) {
			t.Errorf("the lines up to b are %q", got)
		}
	}
	if got := slices.Collect(l); !slices.Equal(got, []string{"a", "b", "c"}) {
		t.Errorf("all lines are %q", got)
	}
}

// Promise 13.1: there may be several blanks between words, and at both ends; what else looks empty is no blank.
func TestBlanks(t *testing.T) {
	plays(t,
		"   ", "ok",
		" clear", "clear",
		"clear  ", "clear",
		"    clear    ", "clear",
		"  player  1 0   0 0 0    1 1   ", "0",
		"player 1 0 0 0 0 1 1", "1",
		"pla yer 1 0 0 0 0 1 1", "error 3",
		"player1 0 0 0 0 1 1", "error 3",
	)
	for _, s := range []string{"\t", "\r", "\v", "\f", "\x00", "\u00a0", "\u0085", "\u2003", "\u3000", "\ufeff", "\xff", "\xc2", "\x80"} {
		plays(t,
			s, "error 3",
			" "+s+" ", "error 3",
			s+"clear", "error 3",
			"clear"+s, "error 3",
			"clear "+s, "error 3",
			"player"+s+"1 0 0 0 0 1 1", "error 3",
			"player 1"+s+"0 0 0 0 1 1", "error 3",
			"player 1 "+s+" 0 0 0 0 1 1", "error 3",
		)
	}
}

// Promise 13.1: ErrForm, unless the first word is one of those that are told.
func TestFirstWords(t *testing.T) {
	for _, w := range []string{"x", "0", "-1", "ok", "error", "asked", "Help", "HELP", "hel", "helpp", "clear,", "help\x00", "\xff", "h\u00e9lp", "Clear", "ballblock", "bodies:", "-", "\"help\""} {
		for k := range 11 {
			plays(t, with(w, k), "error 3", "start 0 0", "start", with(w, k), "error 3")
		}
	}
}

// Promise 13.1: ErrForm, unless just so many words stand behind the first one as are told: ahead of the state of the game.
func TestHowManyWords(t *testing.T) {
	for w, f := range forms() {
		for k := range 13 {
			if k != f.numbers {
				plays(t, with(w, k), "error 3", "start 0 0", "start", with(w, k), "error 3")
			} else if got := answers(t, with(w, k)+"\nclear\nstart 0 0\n"+with(w, k)); got[0] == "error 3" || got[3] == "error 3" {
				t.Errorf("%q has its words, and is answered %q", with(w, k), got)
			}
		}
	}
}

// noNumbers are words that tell none.
func noNumbers() []string {
	return []string{
		"x", "-", "--1", "+1", "+0", "-0", "00", "01", "-01", "007", "-00", "1-", "1.0", "1.", ".5", "1e3", "0x1", "0b1", "0o7", "1_000", "1,000", "1x", "x1", "NaN",
		"9223372036854775808", "-9223372036854775809", "18446744073709551615", "99999999999999999999", "-99999999999999999999", "100000000000000000000000000000",
		"\u0661", "\uff11", "1\u0301", "\u22121", "1\t", "\xff", "1\x00", "\"1\"", "'", "one",
	}
}

// Promise 13.1: all words behind the first one are numbers: ErrForm of every other one, in every place, ahead of the state of the game.
func TestNoNumbers(t *testing.T) {
	for w, f := range forms() {
		for place := range f.numbers {
			for _, s := range noNumbers() {
				l := strings.Fields(with(w, f.numbers))
				l[1+place] = s
				line := strings.Join(l, " ")
				plays(t, line, "error 3", "start 0 0", "start", line, "error 3")
			}
		}
	}
}

// Promise 13.1: numbers are of 64 bits, in every place.
func TestNumbers(t *testing.T) {
	for w, f := range forms() {
		for place := range f.numbers {
			for _, s := range []string{"0", "1", "-1", "10", "-10", "9", "4294967296", "-4294967296", "9223372036854775807", "-9223372036854775808"} {
				l := strings.Fields(with(w, f.numbers))
				l[1+place] = s
				line := strings.Join(l, " ")
				if got := answers(t, line+"\nclear\nstart 0 0\n"+line); got[0] == "error 3" || got[3] == "error 3" {
					t.Errorf("%q has numbers alone, and is answered %q", line, got)
				}
			}
		}
	}
	if got := numbers([]string{"9223372036854775807", "-9223372036854775808", "-70", "0"}); !slices.Equal(got, []int{math.MaxInt, math.MinInt, -70, 0}) {
		t.Errorf("the numbers are %v", got)
	}
}

// Promise 13.1: help tells all words, and there are no others.
func TestHelp(t *testing.T) {
	plays(t, "help", helps, "start 0 0", "start", "help", helps, "help 1", "error 3", "help help", "error 3")
	l := strings.Fields(helps)
	deeds := newGame().deeds()
	for _, w := range l {
		if _, ok := deeds[w]; !ok {
			t.Errorf("%s does nothing", w)
		}
	}
	if len(l) != len(deeds) {
		t.Errorf("there are %d words, and %d deeds", len(l), len(deeds))
	}
}

// P4: what a text is answered hangs on nothing that was asked ahead of it.
func TestNothingIsKept(t *testing.T) {
	first := "ball 0 65536 0 0 0 5 0 0 65536 1\nplayer 1 0 0 0 0 65536 1\nstart 5 5\ntick\nlose 0\npush 0 1 0 0 0\nhas 0\nbodies"
	want := Session(first)
	for range 3 {
		if got := Session(first); got != want {
			t.Fatalf("%q is answered %q, then %q", first, want, got)
		}
	}
	plays(t, "tick", "error 6", "player 0 0 0 0 0 0 0", "0", "start 0 0", "start", "has 0", "0: ")
}
