package desk

import (
	"strconv"

	"gyre/api"
	"gyre/client"
	"gyre/server"
	"gyre/session"
	"gyre/solve"
	"gyre/wire"
	"gyre/world"
)

// game is what the lines so far have made.
type game struct {
	config  world.Config
	bodies  []api.Body
	players []server.Player
	server  *server.Server // none: it has not begun
	seats   []*seat        // by their players' numbers, from start on
	asked   []server.Came  // what comes with the next Tick
}

// seat is where a player sits, once the game has begun.
type seat struct {
	server.Player
	client *client.Client
	count  int  // of what it asked
	lost   bool // what it is sent next
}

// deed is what a line does: with how many numbers, when, and what tells its answer.
type deed struct {
	numbers int
	when    int
	do      func(n []int) string
}

// When a line may come.
const (
	ahead = iota // of the game's beginning
	begun        // from then on
	always
)

// may tells whether it is time for a line.
func (g *game) may(when int) bool {
	switch when {
	case ahead:
		return g.server == nil
	case begun:
		return g.server != nil
	}
	return true
}

// newGame is one that has not begun.
func newGame() *game {
	return &game{config: world.Config{Law: solve.Law{Rounds: 4}, Quota: 5}}
}

// deeds are what lines do, by their first words.
func (g *game) deeds() map[string]deed {
	return map[string]deed{
		"law":    {7, ahead, g.law},
		"ball":   {10, ahead, g.ball},
		"block":  {9, ahead, g.block},
		"player": {7, ahead, g.player},
		"start":  {2, ahead, g.start},
		"push":   {5, begun, g.push},
		"remove": {2, begun, g.remove},
		"lose":   {1, begun, g.lose},
		"tick":   {0, begun, g.tick},
		"has":    {1, begun, g.has},
		"sees":   {1, begun, g.sees},
		"bodies": {0, begun, g.all},
		"digest": {0, begun, g.digest},
		"clear":  {0, always, g.clear},
		"help":   {0, always, g.help},
	}
}

func (g *game) law(n []int) string {
	g.config = world.Config{Fall: vec(n), Law: solve.Law{Bounce: n[3], Rub: n[4], Rounds: n[5]}, Quota: n[6]}
	return "law"
}

func (g *game) ball(n []int) string {
	shape := api.Shape{Kind: api.Ball, Size: api.Vec{X: n[1]}}
	return g.add(api.Body{Owner: n[0], Shape: shape, At: vec(n[2:]), Speed: vec(n[5:]), Mass: n[8], Teams: n[9]})
}

func (g *game) block(n []int) string {
	shape := api.Shape{Kind: api.Block, Size: vec(n[1:])}
	return g.add(api.Body{Owner: n[0], Shape: shape, At: vec(n[4:]), Mass: n[7], Teams: n[8]})
}

// add takes one more body: how many there are. Whether it may be is asked with start.
func (g *game) add(b api.Body) string {
	if len(g.bodies) >= api.MaxBodies {
		panic(api.ErrLimit)
	}
	g.bodies = append(g.bodies, b)
	return strconv.Itoa(len(g.bodies))
}

func (g *game) player(n []int) string {
	if len(g.players) >= api.MaxOwners {
		panic(api.ErrLimit)
	}
	g.players = append(g.players, server.Player{Token: n[0], Eye: n[1], At: vec(n[2:]), Far: n[5], Teams: n[6]})
	return strconv.Itoa(len(g.players) - 1)
}

func (g *game) start(n []int) string {
	s, err := server.New(g.config, g.bodies, g.players, session.Limit{Most: n[0], Each: n[1]})
	check(err)
	g.server = s
	for _, p := range g.players {
		g.seats = append(g.seats, &seat{Player: p, client: client.New()})
	}
	return "start"
}

func (g *game) push(n []int) string {
	g.ask(n[0], wire.Command{Kind: wire.Push, Body: n[1], Way: vec(n[2:])})
	return "asked"
}

func (g *game) remove(n []int) string {
	g.ask(n[0], wire.Command{Kind: wire.Remove, Body: n[1]})
	return "asked"
}

// ask lets a player's command come with the next Tick.
func (g *game) ask(player int, c wire.Command) {
	s := g.seat(player)
	c.Token, c.Number = s.Token, s.count
	c.Seen, _ = s.client.Newest()
	b, err := wire.Ask(c)
	check(err)
	s.count++
	g.asked = append(g.asked, server.Came{From: player, Bytes: b})
}

func (g *game) lose(n []int) string {
	g.seat(n[0]).lost = true
	return "lose"
}

func (g *game) tick([]int) string {
	for k := range g.seats {
		g.ask(k, wire.Command{Kind: wire.Ack})
	}
	many := 0
	for k, l := range g.server.Tick(g.asked) {
		many += g.seats[k].get(l)
	}
	g.asked = nil
	return strconv.Itoa(many)
}

// get feeds datagrams to the client, unless they are lost: how many bytes they have.
func (s *seat) get(l [][]byte) int {
	many := 0
	for _, b := range l {
		many += len(b)
		if !s.lost {
			s.client.Feed(b)
		}
	}
	s.lost = false
	return many
}

func (g *game) has(n []int) string {
	step, v := g.seat(n[0]).client.Newest()
	return strconv.Itoa(step) + ": " + view(v)
}

func (g *game) sees(n []int) string {
	v, err := g.server.Sees(n[0])
	check(err)
	return view(v)
}

func (g *game) all([]int) string { return bodies(g.server.World()) }

func (g *game) digest([]int) string { return strconv.Itoa(g.server.Digest()) }

func (g *game) clear([]int) string {
	*g = *newGame()
	return "clear"
}

func (g *game) help([]int) string {
	return "ball block bodies clear digest has help law lose player push remove sees start tick"
}

// seat is a player's. ErrRange is thrown, if there is no such one.
func (g *game) seat(player int) *seat {
	if player < 0 || player >= len(g.seats) {
		panic(api.ErrRange)
	}
	return g.seats[player]
}
