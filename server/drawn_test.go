package server

import (
	"slices"
	"testing"

	"gyre/api"
	remote "gyre/client"
	"gyre/session"
	"gyre/snap"
	"gyre/solve"
	"gyre/wire"
	"gyre/world"
)

// config is a world's that New takes.
func (d *die) config() world.Config {
	return world.Config{
		Fall: vec(0, -d.upTo(3)*2000, 0), Law: solve.Law{Bounce: d.upTo(3) * one / 2, Rub: d.upTo(2) * one / 2, Rounds: 1 + d.upTo(4)}, Quota: crowd,
	}
}

// command is one of player k (of tokens from 100 on), right or wrong in some way.
func (d *die) command(k, number, steps int) wire.Command {
	c := wire.Command{Token: 100 + k, Number: number, Seen: max(0, steps-d.upTo(4)), Kind: d.upTo(3), Body: d.upTo(12), Way: d.near(2)}
	if c.Kind == wire.Remove && d.upTo(4) > 0 {
		c.Kind = wire.Push
	}
	if d.upTo(10) == 0 {
		c.Seen = d.upTo(steps + 3)
	}
	if d.upTo(10) == 0 {
		c.Number = max(0, c.Number-d.upTo(80))
	}
	if d.upTo(20) == 0 {
		c.Token = 100 + d.upTo(4)
	}
	return c
}

// came are some datagrams, right or wrong in some way.
func (d *die) came(t *testing.T, players, number, steps int) []Came {
	t.Helper()
	var l []Came
	for range d.upTo(2 * players) {
		k := d.upTo(players)
		b := ask(t, d.command(k, number, steps))
		number++
		switch d.upTo(20) {
		case 0:
			b = b[:d.upTo(len(b))]
		case 1:
			b[d.upTo(len(b))] ^= 1 << d.upTo(8)
		case 2:
			b = d.bytes(d.upTo(30))
		case 3:
			k = d.upTo(8) - 2
		}
		for range 1 + d.upTo(8)/7 {
			l = append(l, Came{From: k, Bytes: b})
		}
	}
	return l
}

// Promises 12.1, 12.2: drawn worlds, players and datagrams: a server tells what the model tells.
func TestDrawn(t *testing.T) {
	d := die(7)
	count := map[string]int{}
	for range 60 {
		c, limit := d.config(), session.Limit{Most: 1 + d.upTo(6), Each: d.upTo(4)}
		var bodies []api.Body
		for range d.upTo(20) {
			bodies = append(bodies, d.body())
		}
		var players []Player
		for k := range 1 + d.upTo(4) {
			players = append(players, d.player(100+k))
		}
		s, m := made(t, c, bodies, players, limit), newModel(t, c, bodies, players, limit)
		same(t, s, m)
		quiet := d.upTo(4) == 0
		for step := range 80 {
			l := d.came(t, len(players), 8*step, step)
			// Who is quiet for long is told by nothing again.
			if quiet && step%40 > 3 {
				l = nil
			}
			want := m.tick(t, l, count)
			if got := s.Tick(l); !equal(got, want) {
				t.Fatalf("step %d: %x, want %x", step+1, got, want)
			}
			same(t, s, m)
		}
	}
	for _, what := range []string{
		"of nobody", "no command", "ack", "of no body", "of another one's", "push", "remove", "by a step", "by nothing", "by nothing: too old", "several pieces",
		"not taken: " + api.ErrName.Error(), "not taken: " + api.ErrOrder.Error(), "not taken: " + api.ErrTwice.Error(), "not taken: " + api.ErrLimit.Error(),
	} {
		if count[what] < 30 {
			t.Fatalf("%s: %d times of %v", what, count[what], count)
		}
	}
}

// P1: whatever comes the call ends, and the server is as the model is.
func TestAnyBytes(t *testing.T) {
	d := die(8)
	bodies, count := apart(1, 2, 3), map[string]int{}
	s, m := plays(t, 3, bodies...), newModel(t, still(), bodies, alls(3), wide())
	for range 300 {
		var l []Came
		for range d.upTo(30) {
			l = append(l, Came{From: d.upTo(5) - 1, Bytes: d.bytes(d.upTo(12))})
		}
		want := m.tick(t, l, count)
		if got := s.Tick(l); !equal(got, want) {
			t.Fatalf("%x, want %x", got, want)
		}
		same(t, s, m)
	}
}

// line is a way on which datagrams are lost, late, told twice, and turned round.
type line struct {
	*die
	on   [][]byte
	loss int // of 10
}

// send puts datagrams on the line.
func (l *line) send(b ...[]byte) {
	for _, x := range b {
		for range 1 + l.upTo(8)/7 {
			if l.upTo(10) >= l.loss {
				l.on = append(l.on, x)
			}
		}
	}
}

// come takes some of what is on the line, in any order; others come later.
func (l *line) come() [][]byte {
	for i := range l.on {
		j := l.upTo(i + 1)
		l.on[i], l.on[j] = l.on[j], l.on[i]
	}
	many := len(l.on) - l.upTo(len(l.on)+1)*l.upTo(2)
	b := slices.Clone(l.on[:many])
	l.on = slices.Clone(l.on[many:])
	return b
}

// game is a server, its players' clients, and lines between them, there and back.
type game struct {
	*die
	server  *Server
	clients []*remote.Client
	there   []line
	back    []line
	saw     [][]snap.View // of each player, by steps
	number  int
}

func (d *die) game(t *testing.T, players, loss int) *game {
	t.Helper()
	g := &game{die: d}
	var bodies []api.Body
	for range 15 {
		bodies = append(bodies, d.body())
	}
	var l []Player
	for k := range players {
		l = append(l, d.player(100+k))
		g.clients = append(g.clients, remote.New())
		g.there = append(g.there, line{die: d, loss: loss})
		g.back = append(g.back, line{die: d, loss: loss})
		g.saw = append(g.saw, []snap.View{nil})
	}
	g.server = made(t, d.config(), bodies, l, wide())
	return g
}

// step lets clients ask, the server Tick, and the clients be fed: how many views came.
func (g *game) step(t *testing.T) int {
	t.Helper()
	var l []Came
	for k, c := range g.clients {
		seen, _ := c.Newest()
		ask1 := g.command(k, g.number, seen)
		ask1.Seen = seen
		g.there[k].send(ask(t, ask1))
		for _, b := range g.there[k].come() {
			l = append(l, Came{From: k, Bytes: b})
		}
	}
	g.number++
	came := 0
	for k, sent := range g.server.Tick(l) {
		g.saw[k] = append(g.saw[k], mustSee(t, g.server, k))
		g.back[k].send(sent...)
		for _, b := range g.back[k].come() {
			if g.clients[k].Feed(b) {
				came++
			}
			step, v := g.clients[k].Newest()
			if step >= len(g.saw[k]) || !slices.Equal(v, g.saw[k][step]) {
				t.Fatalf("player %d has %v of step %d, and saw %v", k, v, step, g.saw[k][step])
			}
		}
	}
	return came
}

// Promise 12.3: what a client has of a step is what its player saw then, whatever was lost, told twice, or came late.
func TestWhatComesIsWhatWas(t *testing.T) {
	for loss := range 10 {
		d := die(30 + loss)
		g := d.game(t, 3, loss)
		came := 0
		for range 200 {
			came += g.step(t)
		}
		if came == 0 || loss == 0 && came < 300 {
			t.Fatalf("with %d of 10 lost %d views came", loss, came)
		}
	}
}

// Promise 12.3: if nothing is lost nor late a client has each step as soon as it was told.
func TestNothingIsLost(t *testing.T) {
	d := die(50)
	g := d.game(t, 2, 0)
	for step := 1; step <= 100; step++ {
		var l []Came
		for k, c := range g.clients {
			seen, _ := c.Newest()
			l = append(l, from(t, k, wire.Command{Number: step, Seen: seen, Kind: wire.Push, Body: 1 + d.upTo(15), Way: d.near(1)}))
		}
		for k, sent := range g.server.Tick(l) {
			based(t, sent, step, step-1)
			for i, b := range sent {
				if got := g.clients[k].Feed(b); got != (i == len(sent)-1) {
					t.Fatalf("step %d: piece %d of %d: %v", step, i, len(sent), got)
				}
			}
			if got, v := g.clients[k].Newest(); got != step || !slices.Equal(v, mustSee(t, g.server, k)) {
				t.Fatalf("step %d: the client has %d: %v", step, got, v)
			}
		}
	}
}

// Promise 12.3: what a player is sent hangs on what it Sees, step by step, and on its own datagrams alone: it is worked out of these.
func TestSentByWhatIsSeen(t *testing.T) {
	d := die(60)
	for range 20 {
		g := d.game(t, 3, 0)
		seen := make([]int, 3)
		number := 0
		for step := 1; step <= 60; step++ {
			var l []Came
			for k := range 3 {
				if d.upTo(6) > 0 {
					continue
				}
				told := d.upTo(step + 3)
				if number++; told > seen[k] && told < step {
					seen[k] = told
				}
				l = append(l, from(t, k, wire.Command{Number: number, Seen: told, Kind: d.upTo(3), Body: d.upTo(16), Way: d.near(1)}))
			}
			for k, got := range g.server.Tick(l) {
				g.saw[k] = append(g.saw[k], mustSee(t, g.server, k))
				base := seen[k]
				if step-base > behind {
					base = 0
				}
				if want := told(t, step, base, g.saw[k][base], g.saw[k][step]); !equalDatagrams(got, want) {
					t.Fatalf("step %d: player %d gets %x, want %x", step, k, got, want)
				}
			}
		}
	}
}

// Promise 12.3: bodies that a player does not see, and others' datagrams, change nothing of what it is sent.
func TestWhatIsHiddenDoesNotMatter(t *testing.T) {
	d := die(70)
	for range 30 {
		bodies := []api.Body{of(1, vec(0, 0, 0)), of(0, vec(5*one, one, 0)), of(2, vec(-3*one, 0, 0))}
		for i := range bodies {
			bodies[i].Speed = d.near(1)
		}
		// Others come behind them: of another team, or far away, or both; none of them touches these.
		hidden := slices.Clone(bodies)
		for i := range 1 + d.upTo(12) {
			b := d.body()
			b.Owner = 2 + d.upTo(2)
			b.Teams = 2
			b.At = vec(500*one, 10*i*one, 0)
			if d.upTo(2) == 0 {
				b.Teams = 3
			}
			hidden = append(hidden, b)
		}
		p := []Player{{Token: 100, Eye: 1, Far: 200 * one, Teams: 1}, {Token: 101, Far: farthest, Teams: 2}, {Token: 102, Eye: 7, Teams: 3}}
		c := d.config()
		a, b := made(t, c, bodies, p[:1], wide()), made(t, c, hidden, p, wide())
		for i := range 25 {
			own := from(t, 0, wire.Command{Number: i, Seen: d.upTo(i + 1), Kind: d.upTo(2), Body: 1, Way: d.near(1)})
			l := []Came{own}
			for range d.upTo(5) {
				k := 1 + d.upTo(2)
				// Others may move all bodies that they own but the one that player 0 sees.
				l = append(l, from(t, k, wire.Command{Number: d.upTo(100), Seen: d.upTo(i + 1), Kind: d.upTo(3), Body: 4 + d.upTo(12), Way: d.near(2)}))
				l = append(l, Came{From: k, Bytes: own.Bytes}, Came{From: -1, Bytes: own.Bytes})
			}
			at := d.upTo(len(l))
			l[0], l[at] = l[at], l[0]
			want, got := a.Tick([]Came{own})[0], b.Tick(l)[0]
			if !equalDatagrams(got, want) {
				t.Fatalf("tick %d: %x, want %x", i, got, want)
			}
			if x, y := mustSee(t, a, 0), mustSee(t, b, 0); !slices.Equal(x, y) {
				t.Fatalf("tick %d: %v, want %v", i, y, x)
			}
		}
	}
}

// Promise 12.3: nobody moves another one's: whatever another player asks for, a world without its bodies stays as it is.
func TestNobodyMovesAnothersBodies(t *testing.T) {
	d := die(80)
	for range 10 {
		var bodies []api.Body
		for range 10 {
			b := d.body()
			b.Owner = d.upTo(3)
			bodies = append(bodies, b)
		}
		c := d.config()
		a, b := made(t, c, bodies, alls(3), wide()), made(t, c, bodies, alls(3), wide())
		for i := range 40 {
			var l []Came
			for n := range 10 {
				l = append(l, from(t, 2, wire.Command{Number: 10*i + n, Kind: d.upTo(3), Body: d.upTo(12), Way: d.near(3)}))
			}
			want, got := a.Tick(nil), b.Tick(l)
			if a.Digest() != b.Digest() || !equal(got, want) {
				t.Fatalf("tick %d: %v, want %v", i, b.World(), a.World())
			}
		}
	}
}
