package desk

import (
	"fmt"
	"math/big"
	"regexp"
	"slices"
	"strconv"
	"strings"
	"testing"

	"gyre/api"
	"gyre/client"
	"gyre/server"
	"gyre/session"
	"gyre/snap"
	"gyre/solve"
	"gyre/wire"
	"gyre/world"
)

const (
	longest  = 20000    // of a text
	farthest = 65536000 // of a place, and of what is seen
	fastest  = 6553600  // of a speed
	crowd    = 60       // bodies that may be
	owners   = 8
	helps    = "ball block bodies clear digest has help law lose player push remove sees start tick"
)

// form is how many numbers stand behind a word, and whether it is of a game that has begun (1), has not (-1), or of both (0).
type form struct{ numbers, time int }

// forms are those of all lines, by their first words.
func forms() map[string]form {
	return map[string]form{
		"law": {7, -1}, "ball": {10, -1}, "block": {9, -1}, "player": {7, -1}, "start": {2, -1},
		"push": {5, 1}, "remove": {2, 1}, "lose": {1, 1}, "tick": {0, 1}, "has": {1, 1}, "sees": {1, 1}, "bodies": {0, 1}, "digest": {0, 1},
		"clear": {0, 0}, "help": {0, 0},
	}
}

// with is a word and so many noughts behind it.
func with(word string, many int) string { return word + strings.Repeat(" 0", many) }

// answers are those of a text, line by line.
func answers(t *testing.T, text string) []string {
	t.Helper()
	s := Session(text)
	if !strings.HasSuffix(s, "\n") {
		t.Fatalf("Session(%.200q) = %.200q: no line feed ends it", text, s)
	}
	return strings.Split(strings.TrimSuffix(s, "\n"), "\n")
}

// plays fails unless lines are answered so: a line, its answer, a line, its answer ..
func plays(t *testing.T, l ...string) {
	t.Helper()
	var lines, want []string
	for i := 0; i < len(l); i += 2 {
		lines, want = append(lines, l[i]), append(want, l[i+1])
	}
	got := answers(t, strings.Join(lines, "\n")+"\n")
	if len(got) != len(want) {
		t.Fatalf("%q is answered by %d lines, not %d: %q", lines, len(got), len(want), got)
	}
	for i := range want {
		if got[i] != want[i] {
			t.Fatalf("line %d of %q is answered %q, not %q", i, lines, got[i], want[i])
		}
	}
}

// begins are the lines of a game of two players and three balls far from each other (two of the first player's, one of the second one's), which all see, with their answers.
func begins(start string) []string {
	return []string{
		"ball 1 65536 0 0 0 0 0 0 65536 3", "1",
		"ball 1 65536 655360 0 0 0 0 0 65536 3", "2",
		"ball 2 65536 1310720 0 0 0 0 0 65536 3", "3",
		"player 70 0 0 0 0 65536000 1", "0",
		"player 71 0 0 0 0 65536000 2", "1",
		start, "start",
	}
}

// The model: the chapter told once more, with one switch, and no throwing.
type model struct {
	config  world.Config
	bodies  []api.Body
	players []server.Player
	server  *server.Server
	clients []*client.Client
	counts  []int
	lost    []bool
	came    []server.Came
}

func newModel() *model {
	m := &model{}
	m.config.Law.Rounds = 4
	m.config.Quota = 5
	return m
}

var digits = regexp.MustCompile(`^(0|-?[1-9][0-9]*)$`)

// asNumber is a word's number: false, if it is none.
func asNumber(word string) (int, bool) {
	if !digits.MatchString(word) {
		return 0, false
	}
	b, ok := new(big.Int).SetString(word, 10)
	if !ok || !b.IsInt64() {
		return 0, false
	}
	return int(b.Int64()), true
}

func failed(e api.Errno) string { return fmt.Sprint("error ", int(e)) }

// session is what the model answers to a text.
func (m *model) session(text string) string {
	if len(text) > longest {
		return "error 4\n"
	}
	if n := len(text); n > 0 && text[n-1] == '\n' {
		text = text[:n-1]
	}
	out := ""
	for _, line := range strings.Split(text, "\n") {
		out += m.line(line) + "\n"
	}
	return out
}

// line is what the model answers to a line.
func (m *model) line(line string) string {
	words := slices.DeleteFunc(strings.Split(line, " "), func(w string) bool { return w == "" })
	if len(words) == 0 {
		return "ok"
	}
	f, ok := forms()[words[0]]
	if !ok || f.numbers != len(words)-1 {
		return failed(api.ErrForm)
	}
	n := make([]int, 0, 10)
	for _, w := range words[1:] {
		k, ok := asNumber(w)
		if !ok {
			return failed(api.ErrForm)
		}
		n = append(n, k)
	}
	if f.time == -1 && m.server != nil || f.time == 1 && m.server == nil {
		return failed(api.ErrState)
	}
	switch words[0] {
	case "push", "remove", "lose", "has", "sees":
		if n[0] < 0 || n[0] >= len(m.players) {
			return failed(api.ErrRange)
		}
	}
	return m.does(words[0], n)
}

func (m *model) does(word string, n []int) string {
	switch word {
	case "law":
		m.config = world.Config{Fall: api.Vec{X: n[0], Y: n[1], Z: n[2]}, Law: solve.Law{Bounce: n[3], Rub: n[4], Rounds: n[5]}, Quota: n[6]}
	case "ball", "block":
		if len(m.bodies) == crowd {
			return failed(api.ErrLimit)
		}
		m.bodies = append(m.bodies, bodyOf(word, n))
		return fmt.Sprint(len(m.bodies))
	case "player":
		if len(m.players) == owners {
			return failed(api.ErrLimit)
		}
		m.players = append(m.players, server.Player{Token: n[0], Eye: n[1], At: api.Vec{X: n[2], Y: n[3], Z: n[4]}, Far: n[5], Teams: n[6]})
		return fmt.Sprint(len(m.players) - 1)
	case "start":
		return m.start(session.Limit{Most: n[0], Each: n[1]})
	case "push":
		return m.asks(n[0], wire.Command{Kind: wire.Push, Body: n[1], Way: api.Vec{X: n[2], Y: n[3], Z: n[4]}})
	case "remove":
		return m.asks(n[0], wire.Command{Kind: wire.Remove, Body: n[1]})
	case "lose":
		m.lost[n[0]] = true
	case "tick":
		return m.tick()
	case "has":
		step, v := m.clients[n[0]].Newest()
		return fmt.Sprintf("%d: %s", step, viewOf(v))
	case "sees":
		v, _ := m.server.Sees(n[0])
		return viewOf(v)
	case "bodies":
		return bodiesOf(m.server.World())
	case "digest":
		return fmt.Sprint(m.server.Digest())
	case "clear":
		*m = *newModel()
	case "help":
		return helps
	}
	return word
}

// bodyOf is what a line of a body tells.
func bodyOf(word string, n []int) api.Body {
	if word == "ball" {
		return api.Body{Owner: n[0], Shape: api.Shape{Kind: 1, Size: api.Vec{X: n[1]}}, At: api.Vec{X: n[2], Y: n[3], Z: n[4]}, Speed: api.Vec{X: n[5], Y: n[6], Z: n[7]}, Mass: n[8], Teams: n[9]}
	}
	return api.Body{Owner: n[0], Shape: api.Shape{Kind: 2, Size: api.Vec{X: n[1], Y: n[2], Z: n[3]}}, At: api.Vec{X: n[4], Y: n[5], Z: n[6]}, Mass: n[7], Teams: n[8]}
}

func (m *model) start(l session.Limit) string {
	s, err := server.New(m.config, m.bodies, m.players, l)
	if err != nil {
		return failed(api.Tell(err))
	}
	m.server = s
	m.counts, m.lost = make([]int, len(m.players)), make([]bool, len(m.players))
	for range m.players {
		m.clients = append(m.clients, client.New())
	}
	return "start"
}

func (m *model) asks(k int, c wire.Command) string {
	step, _ := m.clients[k].Newest()
	c.Token, c.Number, c.Seen = m.players[k].Token, m.counts[k], step
	b, err := wire.Ask(c)
	if err != nil {
		return failed(api.Tell(err))
	}
	m.counts[k]++
	m.came = append(m.came, server.Came{From: k, Bytes: b})
	return "asked"
}

func (m *model) tick() string {
	for k := range m.players {
		m.asks(k, wire.Command{Kind: wire.Ack})
	}
	sent := m.server.Tick(m.came)
	m.came = nil
	many := 0
	for k := range m.players {
		for _, b := range sent[k] {
			many += len(b)
			if !m.lost[k] {
				m.clients[k].Feed(b)
			}
		}
		m.lost[k] = false
	}
	return fmt.Sprint(many)
}

func viewOf(v snap.View) string {
	out := ""
	for i, s := range v {
		if i > 0 {
			out += ", "
		}
		out += fmt.Sprintf("%d %d %d %d %d %d %d %d", s.Id, s.Kind, s.At.X, s.At.Y, s.At.Z, s.Speed.X, s.Speed.Y, s.Speed.Z)
	}
	return out
}

func bodiesOf(l []api.Body) string {
	out := ""
	for i, b := range l {
		if i > 0 {
			out += ", "
		}
		out += fmt.Sprintf("%d %d %d %d %d %d %d", b.Id, b.At.X, b.At.Y, b.At.Z, b.Speed.X, b.Speed.Y, b.Speed.Z)
	}
	return out
}

// die draws numbers, the same ones with each run.
type die uint64

func (d *die) upTo(n int) int {
	*d = *d*6364136223846793005 + 1442695040888963407
	return int(uint64(*d>>33) % uint64(n))
}

// one is one of some texts.
func (d *die) one(l ...string) string { return l[d.upTo(len(l))] }

// many are so many numbers around 0, with blanks between.
func (d *die) many(count, step, most int) string {
	var l []string
	for range count {
		l = append(l, strconv.Itoa(step*(d.upTo(2*most+1)-most)))
	}
	return strings.Join(l, " ")
}
