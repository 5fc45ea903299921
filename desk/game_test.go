package desk

import (
	"bytes"
	"fmt"
	"slices"
	"strconv"
	"strings"
	"testing"

	"gyre/api"
	"gyre/server"
	"gyre/session"
	"gyre/snap"
	"gyre/solve"
	"gyre/wire"
	"gyre/world"
)

// Promise 13.1: of law to start ErrState, if the game has begun; of all others, but clear and help, if it has not.
func TestState(t *testing.T) {
	for w, f := range forms() {
		line := with(w, f.numbers)
		got := answers(t, line+"\nclear\nplayer 0 0 0 0 0 0 0\nstart 0 0\n"+line)
		if (got[0] == "error 6") != (f.time == 1) {
			t.Errorf("%s is answered %q ahead of the game", line, got[0])
		}
		if (got[4] == "error 6") != (f.time == -1) {
			t.Errorf("%s is answered %q in the game", line, got[4])
		}
	}
	// It is told ahead of a player that is none, and of what is too much.
	plays(t, "has 9", "error 6", "push -1 0 0 0 0", "error 6", "lose 1", "error 6", "sees 3", "error 6", "remove 0 0", "error 6")
	full := strings.Repeat("ball 0 1 0 0 0 0 0 0 0 0\n", crowd) + strings.Repeat("player 0 0 0 0 0 0 0\n", owners)
	got := answers(t, full+"start 0 0\nball 0 1 0 0 0 0 0 0 0 0\nblock 0 1 1 1 0 0 0 0 0\nplayer 0 0 0 0 0 0 0\nstart -1 -1")
	if l := got[crowd+owners:]; !slices.Equal(l, []string{"start", "error 6", "error 6", "error 6", "error 6"}) {
		t.Errorf("a full game is answered %q", l)
	}
}

// Promise 13.1: ErrRange of a player that is none.
func TestNoPlayer(t *testing.T) {
	for players := range owners + 1 {
		text := strings.Repeat("player 0 0 0 0 0 0 0\n", players) + "start 0 0\n"
		for _, k := range []int{-1, 0, players - 1, players, players + 1, 1 << 32, 1<<63 - 1, -1 << 63} {
			for _, line := range []string{"push %d 1 0 0 0", "remove %d 1", "lose %d", "has %d", "sees %d"} {
				line = fmt.Sprintf(line, k)
				got := answers(t, text+line)[players+1]
				if (got == "error 2") != (k < 0 || k >= players) {
					t.Errorf("with %d players %q is answered %q", players, line, got)
				}
			}
		}
	}
}

// Promise 13.1: a game may begin without anything.
func TestEmptyGame(t *testing.T) {
	plays(t,
		"start 0 0", "start",
		"tick", "0",
		"bodies", "",
		"digest", "7347990519673328018", // half of 14695981039346656037
		"start 0 0", "error 6",
		"has 0", "error 2",
	)
	plays(t, "player 0 0 0 0 0 0 0", "0", "start 0 0", "start", "has 0", "0: ", "sees 0", "", "bodies", "")
}

// Promise 13.1: law, by how bodies fall: each number in its place.
func TestLaw(t *testing.T) {
	ball := "ball 0 65536 0 0 0 0 0 0 65536 1"
	plays(t, "law 0 -5 0 0 0 4 5", "law", ball, "1", "start 0 0", "start", "tick", "0", "bodies", "1 0 -5 0 0 -5 0", "tick", "0", "bodies", "1 0 -15 0 0 -10 0")
	plays(t, "law 1 2 -3 0 0 4 5", "law", ball, "1", "start 0 0", "start", "tick", "0", "bodies", "1 1 2 -3 1 2 -3")
	// The last law counts; without one nothing falls.
	plays(t, "law 1 2 -3 0 0 4 5", "law", "law 7 0 0 0 0 4 5", "law", ball, "1", "start 0 0", "start", "tick", "0", "bodies", "1 7 0 0 7 0 0")
	plays(t, ball, "1", "start 0 0", "start", "tick", "0", "bodies", "1 0 0 0 0 0 0")
	// A law that may not be is told by start, and may be mended.
	for line, want := range map[string]string{
		"law 6553601 0 0 0 0 4 5":                  "error 2",
		"law 0 -6553601 0 0 0 4 5":                 "error 2",
		"law 0 0 6553601 0 0 4 5":                  "error 2",
		"law 0 0 0 65537 0 4 5":                    "error 1",
		"law 0 0 0 0 -1 4 5":                       "error 1",
		"law 0 0 0 0 0 0 5":                        "error 1",
		"law 0 0 0 0 0 21 5":                       "error 1",
		"law 0 0 0 0 0 4 -1":                       "error 2",
		"law 0 0 0 0 0 4 61":                       "error 2",
		"law 6553600 -6553600 0 65536 65536 20 60": "start",
		"law 0 0 0 0 0 1 0":                        "start",
	} {
		plays(t, line, "law", "start 0 0", want)
		if want != "start" {
			plays(t, line, "law", "start 0 0", want, "tick", "error 6", "law 0 0 0 0 0 4 5", "law", "start 0 0", "start", "tick", "0")
		}
	}
}

// Promise 13.1: at first Fall, Bounce and Rub are 0, Rounds is 4, and Quota 5: what is told by another law is another game.
func TestFirstLaw(t *testing.T) {
	if got, want := newGame().config, (world.Config{Law: solve.Law{Rounds: 4}, Quota: 5}); got != want {
		t.Errorf("the first config is %v, not %v", got, want)
	}
	heap := ""
	for i := range 5 {
		heap += fmt.Sprintf("ball 0 65536 %d %d 0 %d 777 0 %d 1\n", i*70000, i*30000, 9000-i*3000, 65536*(1+i%3))
	}
	heap += "block 0 65536 65536 65536 90000 -60000 0 0 1\nstart 0 0\ntick\ntick\ntick\ndigest\nbodies"
	want := Session(heap)
	same := Session("law 0 0 0 0 0 4 5\n" + heap)
	if same != "law\n"+want {
		t.Errorf("the first law makes %q, that of its numbers %q", want, same)
	}
	for _, l := range []string{"law 1 0 0 0 0 4 5", "law 0 1 0 0 0 4 5", "law 0 0 1 0 0 4 5", "law 0 0 0 9999 0 4 5", "law 0 0 0 0 9999 4 5", "law 0 0 0 0 0 3 5", "law 0 0 0 0 0 5 5"} {
		if Session(l+"\n"+heap) == "law\n"+want {
			t.Errorf("%s makes no difference", l)
		}
	}
	five := strings.Repeat("ball 1 65536 0 0 0 0 0 0 65536 1\n", 5) + "start 0 0"
	if got := answers(t, five); got[5] != "start" {
		t.Errorf("five bodies of one owner: %q", got)
	}
	if got := answers(t, "ball 1 65536 0 0 0 0 0 0 65536 1\n"+five); got[6] != "error 4" {
		t.Errorf("six bodies of one owner: %q", got)
	}
	if got := answers(t, "law 0 0 0 0 0 4 4\n"+five); got[6] != "error 4" {
		t.Errorf("five bodies of one owner that may have four: %q", got)
	}
}

// Promise 13.1: each number of a line stands in its place: the game is just that which New (12.1) makes.
func TestEachPlace(t *testing.T) {
	c := world.Config{Fall: api.Vec{X: 11, Y: -12, Z: 13}, Law: solve.Law{Bounce: 20000, Rub: 30000, Rounds: 7}, Quota: 9}
	bodies := []api.Body{
		{Owner: 3, Shape: api.Shape{Kind: api.Ball, Size: api.Vec{X: 40000}}, At: api.Vec{X: 101, Y: 102, Z: 103}, Speed: api.Vec{X: 201, Y: 202, Z: 203}, Mass: 65537, Teams: 5},
		{Owner: 2, Shape: api.Shape{Kind: api.Block, Size: api.Vec{X: 41000, Y: 42000, Z: 43000}}, At: api.Vec{X: 301, Y: 302, Z: 303}, Mass: 65538, Teams: 6},
		{Shape: api.Shape{Kind: api.Ball, Size: api.Vec{X: 1}}, At: api.Vec{X: -farthest, Y: farthest}, Speed: api.Vec{Z: -fastest}},
	}
	players := []server.Player{
		{Token: 70, At: api.Vec{X: 40101, Y: 102, Z: 103}, Far: 1, Teams: 1},
		{Token: 71, At: api.Vec{X: 101, Y: 40102, Z: 103}, Far: 1, Teams: 4},
		{Token: 72, At: api.Vec{X: 101, Y: 102, Z: 40103}, Far: 2, Teams: 2},
		{Token: 73, Eye: 2, Far: 3, Teams: 8 + 2},
		{Token: 74, Eye: 9, At: api.Vec{X: 41302, Y: 42303, Z: 43304}, Far: 1, Teams: -1},
		{Token: 75, Eye: 3, Far: farthest, Teams: 7},
	}
	text := "law 11 -12 13 20000 30000 7 9\n" +
		"ball 3 40000 101 102 103 201 202 203 65537 5\n" +
		"block 2 41000 42000 43000 301 302 303 65538 6\n" +
		"ball 0 1 -65536000 65536000 0 0 0 -6553600 0 0\n"
	want := []string{"law", "1", "2", "3"}
	for k, p := range players {
		text += fmt.Sprintln("player", p.Token, p.Eye, p.At.X, p.At.Y, p.At.Z, p.Far, p.Teams)
		want = append(want, strconv.Itoa(k))
	}
	s, err := server.New(c, bodies, players, session.Limit{Most: 3, Each: 2})
	if err != nil {
		t.Fatal(err)
	}
	text += "start 3 2\n"
	want = append(want, "start")
	sees := 0
	for range 3 {
		text += "bodies\ndigest\n"
		want = append(want, bodiesOf(s.World()), strconv.Itoa(s.Digest()))
		for k := range players {
			v, _ := s.Sees(k)
			text += fmt.Sprintln("sees", k)
			want = append(want, viewOf(v))
			sees += len(v)
		}
		s.Tick(nil)
		text += "tick\n"
		want = append(want, "")
	}
	for i, got := range answers(t, text) {
		if want[i] != "" && got != want[i] {
			t.Errorf("line %d is answered %q, not %q", i, got, want[i])
		}
	}
	if sees < 9 {
		t.Errorf("all players see %d bodies: too few to tell them apart", sees)
	}
}

// Promise 13.1: one more body: how many there are; ErrLimit, if there are MaxBodies.
func TestManyBodies(t *testing.T) {
	text := ""
	var want []string
	for k := range crowd {
		text += []string{"ball 0 65536 0 0 0 0 0 0 0 0\n", "block 0 65536 65536 65536 0 0 0 0 0\n"}[k%2]
		want = append(want, strconv.Itoa(k+1))
	}
	text += "ball 0 65536 0 0 0 0 0 0 0 0\nblock 0 1 1 1 0 0 0 0 0\nstart 0 0\nbodies"
	got := answers(t, text)
	want = append(want, "error 4", "error 4", "start")
	if !slices.Equal(got[:crowd+3], want) {
		t.Fatalf("%d bodies are answered %q", crowd, got)
	}
	if many := len(strings.Split(got[crowd+3], ", ")); many != crowd {
		t.Errorf("there are %d bodies", many)
	}
}

// Promise 13.1: one more player: its number; ErrLimit, if there are MaxOwners.
func TestManyPlayers(t *testing.T) {
	var l []string
	for k := range owners {
		l = append(l, "player 5 0 0 0 0 0 0", strconv.Itoa(k))
	}
	l = append(l, "player 5 0 0 0 0 0 0", "error 4", "player 5 0 0 0 0 -1 0", "error 4", "start 0 0", "start", "has 7", "0: ", "has 8", "error 2")
	plays(t, l...)
}

// Promise 13.1: start tells what New (12.1) says, of each thing; then the game has not begun.
func TestStartErrors(t *testing.T) {
	for _, c := range [][]string{
		{"ball 0 0 0 0 0 0 0 0 0 0", "1", "start 0 0", "error 1"},
		{"ball 0 3276801 0 0 0 0 0 0 0 0", "1", "start 0 0", "error 1"},
		{"block 0 1 0 1 0 0 0 0 0", "1", "start 0 0", "error 1"},
		{"ball 9 1 0 0 0 0 0 0 0 0", "1", "start 0 0", "error 2"},
		{"ball -1 1 0 0 0 0 0 0 0 0", "1", "start 0 0", "error 2"},
		{"ball 0 1 0 65536001 0 0 0 0 0 0", "1", "start 0 0", "error 2"},
		{"ball 0 1 0 0 0 0 0 -6553601 0 0", "1", "start 0 0", "error 2"},
		{"ball 0 1 0 0 0 0 0 0 65536001 0", "1", "start 0 0", "error 2"},
		{"ball 0 1 0 0 0 0 0 0 -1 0", "1", "start 0 0", "error 2"},
		{"block 0 1 1 1 0 0 0 -1 0", "1", "start 0 0", "error 2"},
		{"player 0 0 0 0 0 -1 0", "0", "start 0 0", "error 2"},
		{"player 0 0 0 0 0 65536001 0", "0", "start 0 0", "error 2"},
		{"player 0 0 0 -65536001 0 0 0", "0", "start 0 0", "error 2"},
		{"player -1 0 0 0 0 0 0", "0", "start 0 0", "error 2"},
		{"player 70368744177665 0 0 0 0 0 0", "0", "start 0 0", "error 2"},
		{"player 0 0 0 0 0 0 0", "0", "start -1 0", "error 2"},
		{"player 0 0 0 0 0 0 0", "0", "start 0 1001", "error 2"},
		// Bodies are told one by one, ahead of players.
		{"player -1 0 0 0 0 0 0", "0", "ball 0 0 0 0 0 0 0 0 0 0", "1", "ball 9 1 0 0 0 0 0 0 0 0", "2", "start 0 0", "error 1"},
		{"ball 9 1 0 0 0 0 0 0 0 0", "1", "ball 0 0 0 0 0 0 0 0 0 0", "2", "start 0 0", "error 2"},
	} {
		plays(t, slices.Concat(c, []string{"tick", "error 6", "has 0", "error 6", c[len(c)-2], c[len(c)-1], "law 0 0 0 0 0 4 5", "law", "player 0 0 0 0 0 0 0", strconv.Itoa(count(c, "player")), "clear", "clear", "start 0 0", "start"})...)
	}
	// Without players nobody asks for limits.
	plays(t, "start -1 1001", "start")
	plays(t, "player 70368744177664 -9 65536000 -65536000 0 65536000 -1", "0", "start 1000 1000", "start")
}

// count is how many of some lines begin with a word.
func count(l []string, word string) int {
	many := 0
	for _, s := range l {
		if strings.HasPrefix(s, word) {
			many++
		}
	}
	return many
}

// Promise 13.1: push and remove come with the next Tick, of a player's own bodies alone.
func TestPushAndRemove(t *testing.T) {
	plays(t, append(begins("start 9 9"),
		"push 0 1 5 -6 7", "asked",
		"push 1 3 0 0 9", "asked",
		"bodies", "1 0 0 0 0 0 0, 2 655360 0 0 0 0 0, 3 1310720 0 0 0 0 0",
		"tick", answerOf("tick", begins("start 9 9"), "push 0 1 5 -6 7", "push 1 3 0 0 9"),
		"bodies", "1 5 -6 7 5 -6 7, 2 655360 0 0 0 0 0, 3 1310720 0 9 0 0 9",
		"push 0 3 1 1 1", "asked", // another one's
		"push 1 1 1 1 1", "asked",
		"push 0 4 1 1 1", "asked", // nobody's
		"remove 1 1", "asked",
		"remove 0 3", "asked",
		"remove 0 0", "asked",
		"remove 0 2", "asked",
		"push 0 1 0 0 0", "asked",
		"bodies", "1 5 -6 7 5 -6 7, 2 655360 0 0 0 0 0, 3 1310720 0 9 0 0 9",
		"tick", answerOf("tick", begins("start 9 9"), "push 0 1 5 -6 7", "push 1 3 0 0 9", "tick", "remove 0 2", "push 0 1 0 0 0"),
		"bodies", "1 10 -12 14 5 -6 7, 3 1310720 0 27 0 0 18",
	)...)
}

// answerOf is what the model answers to a line behind a game's beginning and some lines.
func answerOf(line string, begin []string, lines ...string) string {
	m := newModel()
	for i := 0; i < len(begin); i += 2 {
		m.line(begin[i])
	}
	for _, l := range lines {
		m.line(l)
	}
	return m.line(line)
}

// Promise 13.1: what Ask (10.1) says of push and remove: then nothing is asked.
func TestWrongAsks(t *testing.T) {
	for _, line := range []string{
		"push 0 -1 0 0 0", "push 0 70368744177665 0 0 0", "push 0 1 6553601 0 0", "push 0 1 0 -6553601 0", "push 0 1 0 0 9223372036854775807", "push 0 1 -9223372036854775808 0 0",
		"remove 0 -1", "remove 0 70368744177665", "remove 1 9223372036854775807",
	} {
		g := began(t, begins("start 9 9"))
		if got := g.answer(g.deeds(), line); got != "error 2" {
			t.Errorf("%s is answered %q", line, got)
		}
		if len(g.asked) != 0 || g.seats[0].count != 0 || g.seats[1].count != 0 {
			t.Errorf("%s was asked: %v", line, g.asked)
		}
	}
	for _, line := range []string{"push 0 0 0 0 0", "push 0 70368744177664 6553600 -6553600 0", "remove 1 0", "remove 1 70368744177664"} {
		plays(t, append(begins("start 9 9"), line, "asked")...)
	}
}

// began is a game behind lines, with their answers beside them.
func began(t *testing.T, l []string) *game {
	t.Helper()
	g := newGame()
	for i := 0; i < len(l); i += 2 {
		if got := g.answer(g.deeds(), l[i]); got != l[i+1] {
			t.Fatalf("%q is answered %q, not %q", l[i], got, l[i+1])
		}
	}
	return g
}

// asksOf fails unless just these commands are to come with the next Tick, of these players.
func asksOf(t *testing.T, g *game, from []int, c ...wire.Command) {
	t.Helper()
	if len(g.asked) != len(c) {
		t.Fatalf("%d commands are to come, not %d", len(g.asked), len(c))
	}
	for i, a := range g.asked {
		want, err := wire.Ask(c[i])
		if got, _ := wire.Asked(a.Bytes); err != nil || a.From != from[i] || !bytes.Equal(a.Bytes, want) {
			t.Errorf("command %d is %v of player %d, not %v of %d", i, got, a.From, c[i], from[i])
		}
	}
}

// Promise 13.1: Ask has the player's Token, its count as Number, its client's Newest step as Seen; the count is one more with each, those of tick too.
func TestAsks(t *testing.T) {
	g := began(t, begins("start 9 9"))
	asksOf(t, g, nil)
	does := func(line string) {
		t.Helper()
		if got := g.answer(g.deeds(), line); strings.HasPrefix(got, "error") {
			t.Fatalf("%s is answered %q", line, got)
		}
	}
	does("push 1 3 1 2 3")
	does("push 0 1 4 5 -6")
	does("remove 0 2")
	asksOf(t, g, []int{1, 0, 0},
		wire.Command{Token: 71, Number: 0, Kind: wire.Push, Body: 3, Way: api.Vec{X: 1, Y: 2, Z: 3}},
		wire.Command{Token: 70, Number: 0, Kind: wire.Push, Body: 1, Way: api.Vec{X: 4, Y: 5, Z: -6}},
		wire.Command{Token: 70, Number: 1, Kind: wire.Remove, Body: 2})
	does("lose 1")
	does("tick")
	asksOf(t, g, nil)
	does("remove 0 9")
	does("remove 1 9")
	asksOf(t, g, []int{0, 1},
		wire.Command{Token: 70, Number: 3, Seen: 1, Kind: wire.Remove, Body: 9},
		wire.Command{Token: 71, Number: 2, Seen: 0, Kind: wire.Remove, Body: 9})
	does("tick")
	does("tick")
	does("push 1 3 0 0 0")
	asksOf(t, g, []int{1}, wire.Command{Token: 71, Number: 5, Seen: 3, Kind: wire.Push, Body: 3})
}

// Promise 13.1: what was asked comes once; an Ack comes behind it, and takes what is left.
func TestOnce(t *testing.T) {
	// One command a Tick may come: the second push never does, and no Ack ahead of the first one.
	l := append(begins("start 1 1"), "push 0 1 5 0 0", "asked", "push 0 1 7 0 0", "asked")
	g := began(t, l)
	for i, want := range []string{"5 0 0 5 0 0", "15 0 0 10 0 0", "30 0 0 15 0 0"} {
		g.tick(nil)
		if got := g.all(nil); !strings.HasPrefix(got, "1 "+want+", ") {
			t.Fatalf("behind tick %d the bodies are %s", i+1, got)
		}
	}
}

// sized is how many bytes the datagrams of a view have.
func sized(t *testing.T, step, base int, from, to snap.View) int {
	t.Helper()
	changes, err := snap.Delta(from, to)
	if err != nil {
		t.Fatal(err)
	}
	pieces, err := wire.Cut(step, base, changes)
	if err != nil {
		t.Fatal(err)
	}
	many := 0
	for _, p := range pieces {
		b, err := wire.Tell(p)
		if err != nil {
			t.Fatal(err)
		}
		many += len(b)
	}
	return many
}

// Promise 13.1: tick tells how many bytes all datagrams had, those that are lost too; a base is a step that the Ack has told.
func TestTickBytes(t *testing.T) {
	ball := snap.Seen{Id: 1, Kind: 1, Size: api.Vec{X: 256}}
	v := snap.View{ball}
	first, later := sized(t, 1, 0, nil, v), sized(t, 2, 1, v, v)
	if first <= later {
		t.Fatalf("%d bytes, then %d: this tells nothing", first, later)
	}
	game := []string{"ball 0 65536 0 0 0 0 0 0 0 1", "1", "player 7 0 0 0 0 9 1", "0", "player 8 0 0 0 0 9 2", "1", "player 9 0 0 0 0 9 1", "2", "start 2 2", "start"}
	none := sized(t, 1, 0, nil, nil)
	told := strconv.Itoa
	plays(t, append(game, "tick", told(2*first+none), "tick", told(2*later+none), "tick", told(2*later+none))...)
	// What was lost is told again from the beginning; that of the others is not.
	plays(t, append(game,
		"lose 0", "lose", "tick", told(2*first+none),
		"tick", told(first+later+none),
		"tick", told(2*later+none),
		"has 0", "3: 1 1 0 0 0 0 0 0", "has 1", "3: ", "has 2", "3: 1 1 0 0 0 0 0 0",
	)...)
	// Without a command left no Ack counts: all is told from the beginning, again and again.
	game[len(game)-2] = "start 0 0"
	plays(t, append(game, "tick", told(2*first+none), "tick", told(2*first+none), "has 2", "2: 1 1 0 0 0 0 0 0")...)
}

// Promise 13.1: a view in several pieces: each is fed, in order, and counts.
func TestManyPieces(t *testing.T) {
	var v snap.View
	var l []string
	for k := range crowd {
		x := 9999999 - 333333*k
		l = append(l, fmt.Sprintf("ball 0 12345 %d %d %d 0 0 0 0 1", x, -x, x/3), strconv.Itoa(k+1))
		v = append(v, snap.Look(api.Body{Id: k + 1, Shape: api.Shape{Kind: api.Ball, Size: api.Vec{X: 12345}}, At: api.Vec{X: x, Y: -x, Z: x / 3}}))
	}
	many := sized(t, 1, 0, nil, v)
	if many < 600 {
		t.Fatalf("%d bytes are too few pieces", many)
	}
	l = append(l, "player 7 0 0 0 0 65536000 1", "0", "start 9 9", "start", "tick", strconv.Itoa(many), "has 0", "1: "+viewOf(v), "sees 0", viewOf(v))
	l = append(l, "lose 0", "lose", "tick", strconv.Itoa(sized(t, 2, 1, v, v)), "has 0", "1: "+viewOf(v))
	plays(t, l...)
}

// Promise 13.1: what is lost is that of the next Tick alone, and of that player.
func TestLose(t *testing.T) {
	tick := func(l ...string) string { return answerOf("tick", begins("start 9 9"), l...) }
	plays(t, append(begins("start 9 9"),
		"lose 1", "lose",
		"lose 1", "lose",
		"tick", tick("lose 1"),
		"has 0", "1: 1 1 0 0 0 0 0 0, 2 1 2560 0 0 0 0 0, 3 1 5120 0 0 0 0 0",
		"has 1", "0: ",
		"tick", tick("lose 1", "tick"),
		"has 0", "2: 1 1 0 0 0 0 0 0, 2 1 2560 0 0 0 0 0, 3 1 5120 0 0 0 0 0",
		"has 1", "2: 1 1 0 0 0 0 0 0, 2 1 2560 0 0 0 0 0, 3 1 5120 0 0 0 0 0",
		"lose 0", "lose",
		"push 0 1 -256 0 0", "asked", // what it asks is not lost
		"tick", tick("lose 1", "tick", "tick", "lose 0", "push 0 1 -256 0 0"),
		"has 0", "2: 1 1 0 0 0 0 0 0, 2 1 2560 0 0 0 0 0, 3 1 5120 0 0 0 0 0",
		"has 1", "3: 1 1 -1 0 0 -1 0 0, 2 1 2560 0 0 0 0 0, 3 1 5120 0 0 0 0 0",
		"sees 0", "1 1 -1 0 0 -1 0 0, 2 1 2560 0 0 0 0 0, 3 1 5120 0 0 0 0 0",
	)...)
}

// Promise 13.1: views are told in 256ths, with Kinds; bodies as they are. Each part stands in its place.
func TestTold(t *testing.T) {
	plays(t,
		"ball 0 65536 -1 1024 2047 -256 255 -257 0 1", "1",
		"block 0 256 512 768 -2560 5120 -7680 0 1", "2",
		"player 1 0 0 0 0 65536000 1", "0",
		"player 1 0 0 0 0 65536000 2", "1",
		"start 9 9", "start",
		"bodies", "1 -1 1024 2047 -256 255 -257, 2 -2560 5120 -7680 0 0 0",
		"sees 0", "1 1 -1 4 7 -1 0 -2, 2 2 -10 20 -30 0 0 0",
		"sees 1", "",
		"has 0", "0: ",
		"has 1", "0: ",
	)
}

// Promise 13.1: clear: all is as at first, whenever it comes.
func TestClear(t *testing.T) {
	tick := answerOf("tick", []string{"ball 1 65536 0 0 0 0 0 0 65536 1", "", "player 1 0 0 0 0 65536 1", "", "start 1 1", ""})
	again := []string{
		"clear", "clear",
		"tick", "error 6",
		"ball 1 65536 0 0 0 0 0 0 65536 1", "1",
		"player 1 0 0 0 0 65536 1", "0",
		"start 1 1", "start",
		"has 0", "0: ",
		"has 1", "error 2",
		"tick", tick,
		"bodies", "1 0 0 0 0 0 0",
		"has 0", "1: 1 1 0 0 0 0 0 0",
	}
	law := []string{"law 5 5 5 0 0 9 0", "law"}
	asked := []string{"push 0 1 9 9 9", "asked", "lose 0", "lose", "lose 1", "lose"}
	plays(t, again...)
	plays(t, slices.Concat(law, again)...)
	plays(t, slices.Concat(law, []string{"start 0 0", "start"}, again)...)
	plays(t, slices.Concat(begins("start 9 9"), again)...)
	plays(t, slices.Concat(begins("start 9 9"), asked, again)...)
	plays(t, slices.Concat(begins("start 9 9"), asked, again, asked[:4], again, again, []string{"clear", "clear", "clear", "clear"})...)
	full := strings.Repeat("ball 0 1 0 0 0 0 0 0 0 0\n", crowd) + strings.Repeat("player 0 0 0 0 0 0 0\n", owners) + "clear\nball 0 1 0 0 0 0 0 0 0 0\nplayer 0 0 0 0 0 0 0"
	if got := answers(t, full)[crowd+owners:]; !slices.Equal(got, []string{"clear", "1", "0"}) {
		t.Errorf("behind clear a full game is answered %q", got)
	}
}
