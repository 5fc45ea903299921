package server

import (
	"math"
	"reflect"
	"slices"
	"testing"

	"gyre/api"
	"gyre/geom"
	"gyre/plain"
	"gyre/session"
	"gyre/snap"
	"gyre/solve"
	"gyre/wire"
	"gyre/world"
)

const (
	one      = 65536
	top      = 70368744177664 // 2^46
	farthest = 65536000       // of a place, and of what is seen
	fastest  = 6553600        // of a speed
	crowd    = 60             // bodies that may be
	owners   = 8
	behind   = 31 // steps that may be a base, ahead of the one that is told
	most     = math.MaxInt
	low      = math.MinInt
)

func vec(x, y, z int) api.Vec { return api.Vec{X: x, Y: y, Z: z} }

func ball(size int) api.Shape { return api.Shape{Kind: api.Ball, Size: vec(size, 0, 0)} }

// turns are a vector with X, Y and Z in each other's place: what holds in one direction is to hold in all of them.
func turns(v api.Vec) [3]api.Vec {
	return [3]api.Vec{v, vec(v.Z, v.X, v.Y), vec(v.Y, v.Z, v.X)}
}

// still is a world in which nothing falls, bounces or rubs.
func still() world.Config { return world.Config{Law: solve.Law{Rounds: 1}, Quota: crowd} }

// wide is a limit that stops nobody.
func wide() session.Limit { return session.Limit{Most: 1000, Each: 1000} }

// of is a small ball of an owner, which all teams see.
func of(owner int, at api.Vec) api.Body {
	return api.Body{Owner: owner, Shape: ball(one / 4), At: at, Mass: one, Teams: 1}
}

// apart are small balls of owners, each far from the others.
func apart(owner ...int) []api.Body {
	var l []api.Body
	for i, o := range owner {
		l = append(l, of(o, vec(10*i*one, 0, 0)))
	}
	return l
}

// all is a player that sees all of the world that team 1 sees.
func all(token int) Player { return Player{Token: token, Far: farthest, Teams: 1} }

// alls are so many of them, with tokens from 100 on.
func alls(many int) []Player {
	var l []Player
	for k := range many {
		l = append(l, all(100+k))
	}
	return l
}

// made is a new server.
func made(t *testing.T, c world.Config, bodies []api.Body, players []Player, l session.Limit) *Server {
	t.Helper()
	s, err := New(c, bodies, players, l)
	if err != nil || s == nil {
		t.Fatalf("New(%v, %v, %v, %v) = %v, %v", c, bodies, players, l, s, err)
	}
	return s
}

// plays is a server of a still world, whose players see all.
func plays(t *testing.T, many int, bodies ...api.Body) *Server {
	t.Helper()
	return made(t, still(), bodies, alls(many), wide())
}

// asks fails unless New tells that error, without a place, and nothing else.
func asks(t *testing.T, what string, want api.Errno, c world.Config, bodies []api.Body, players []Player, l session.Limit) {
	t.Helper()
	s, err := New(c, bodies, players, l)
	if e, bare := plain.Bare(err); e != want || !bare || (s == nil) != (want != api.OK) {
		t.Fatalf("%s: New is %v, %v, want %v", what, s, err, want)
	}
}

// ask is a command as a datagram.
func ask(t *testing.T, c wire.Command) []byte {
	t.Helper()
	b, err := wire.Ask(c)
	if err != nil {
		t.Fatalf("Ask(%v): %v", c, err)
	}
	return b
}

// from is a command of player k of alls.
func from(t *testing.T, k int, c wire.Command) Came {
	t.Helper()
	c.Token = 100 + k
	return Came{From: k, Bytes: ask(t, c)}
}

// acks is player k's telling that it has seen a step.
func acks(t *testing.T, k, number, seen int) Came {
	t.Helper()
	return from(t, k, wire.Command{Number: number, Seen: seen})
}

// pushes is player k's asking for a body's push.
func pushes(t *testing.T, k, number, body int, way api.Vec) Came {
	t.Helper()
	return from(t, k, wire.Command{Number: number, Kind: wire.Push, Body: body, Way: way})
}

// removes is player k's asking for a body to be taken away.
func removes(t *testing.T, k, number, body int) Came {
	t.Helper()
	return from(t, k, wire.Command{Number: number, Kind: wire.Remove, Body: body})
}

// ids are the numbers of all bodies.
func ids(s *Server) []int {
	var l []int
	for _, b := range s.World() {
		l = append(l, b.Id)
	}
	return l
}

// pushed is how a body is pushed.
func pushed(t *testing.T, s *Server, id int) api.Vec {
	t.Helper()
	for _, b := range s.World() {
		if b.Id == id {
			return b.Push
		}
	}
	t.Fatalf("there is no body %d", id)
	return api.Vec{}
}

// sees fails unless a player sees just these bodies.
func sees(t *testing.T, s *Server, player int, want ...int) {
	t.Helper()
	v, err := s.Sees(player)
	var got []int
	for _, x := range v {
		got = append(got, x.Id)
	}
	if err != nil || !slices.Equal(got, want) {
		t.Fatalf("Sees(%d) = %v, %v, want %v", player, got, err, want)
	}
}

// pieces are datagrams as they were told.
func pieces(t *testing.T, l [][]byte) []wire.Piece {
	t.Helper()
	var out []wire.Piece
	for _, b := range l {
		p, err := wire.Told(b)
		if err != nil {
			t.Fatalf("Told(%x): %v", b, err)
		}
		out = append(out, p)
	}
	return out
}

// based fails unless the datagrams of a step are told by that base.
func based(t *testing.T, l [][]byte, step, base int) {
	t.Helper()
	if len(l) == 0 {
		t.Fatalf("step %d: nothing is told", step)
	}
	for _, p := range pieces(t, l) {
		if p.Step != step || p.Base != base {
			t.Fatalf("step %d by %d, want step %d by %d", p.Step, p.Base, step, base)
		}
	}
}

// goes lets so many steps go by without a datagram.
func goes(s *Server, steps int) {
	for range steps {
		s.Tick(nil)
	}
}

// model is the chapter once more: each view of each player is kept from the first one on, and each body asked by itself.
type model struct {
	world    *world.World
	players  []Player
	sessions []*session.Session
	seen     []int
	saw      [][]snap.View // of each player, by steps; that of step 0 is empty
}

func newModel(t *testing.T, c world.Config, bodies []api.Body, players []Player, l session.Limit) *model {
	t.Helper()
	w, err := world.New(c)
	if err != nil {
		t.Fatalf("world.New(%v): %v", c, err)
	}
	for _, b := range bodies {
		if _, err := w.Spawn(b); err != nil {
			t.Fatalf("Spawn(%v): %v", b, err)
		}
	}
	m := &model{world: w, players: players, seen: make([]int, len(players)), saw: make([][]snap.View, len(players))}
	for k, p := range players {
		s, err := session.New(p.Token, l)
		if err != nil {
			t.Fatalf("session.New(%d, %v): %v", p.Token, l, err)
		}
		m.sessions = append(m.sessions, s)
		m.saw[k] = []snap.View{nil}
	}
	return m
}

// sees is what a player sees: the words of 7.1, body by body.
func (m *model) sees(k int) snap.View {
	p := m.players[k]
	at := p.At
	for _, b := range m.world.Bodies() {
		if b.Id == p.Eye {
			at = b.At
		}
	}
	box := geom.Box{Low: vec(at.X-p.Far, at.Y-p.Far, at.Z-p.Far), High: vec(at.X+p.Far, at.Y+p.Far, at.Z+p.Far)}
	var v snap.View
	for _, b := range m.world.Bodies() {
		if b.Teams&p.Teams != 0 && geom.Meet(geom.Around(b.Shape, b.At), box) {
			v = append(v, snap.Look(b))
		}
	}
	return v
}

// take tells what comes of a datagram.
func (m *model) take(d Came) string {
	if d.From < 0 || d.From >= len(m.players) {
		return "of nobody"
	}
	c, err := wire.Asked(d.Bytes)
	if err != nil {
		return "no command"
	}
	if err := m.sessions[d.From].Take(c.Token, c.Number); err != nil {
		return "not taken: " + err.Error()
	}
	if c.Seen > m.seen[d.From] && c.Seen <= m.world.Steps() {
		m.seen[d.From] = c.Seen
	}
	if c.Kind == wire.Ack {
		return "ack"
	}
	b, there := m.world.Body(c.Body)
	if !there {
		return "of no body"
	}
	if b.Owner != d.From+1 {
		return "of another one's"
	}
	if c.Kind == wire.Push {
		m.world.Push(c.Body, c.Way)
		return "push"
	}
	m.world.Remove(c.Body)
	return "remove"
}

// base is the step by which the next view of a player is told.
func (m *model) base(k, step int) int {
	for back := 1; back <= behind; back++ {
		if m.seen[k] == step-back {
			return m.seen[k]
		}
	}
	return 0
}

// tick tells what came of the datagrams, counts it, and what is sent.
func (m *model) tick(t *testing.T, l []Came, count map[string]int) [][][]byte {
	t.Helper()
	for _, s := range m.sessions {
		s.Tick()
	}
	for _, d := range l {
		count[m.take(d)]++
	}
	m.world.Step()
	step := m.world.Steps()
	out := make([][][]byte, len(m.players))
	for k := range m.players {
		m.saw[k] = append(m.saw[k], m.sees(k))
		base := m.base(k, step)
		out[k] = told(t, step, base, m.saw[k][base], m.saw[k][step])
		switch {
		case base > 0:
			count["by a step"]++
		case m.seen[k] > 0:
			count["by nothing: too old"]++
		default:
			count["by nothing"]++
		}
		if len(out[k]) > 1 {
			count["several pieces"]++
		}
	}
	return out
}

// told is a view by another one, as datagrams.
func told(t *testing.T, step, base int, from, to snap.View) [][]byte {
	t.Helper()
	b, err := snap.Delta(from, to)
	if err != nil {
		t.Fatalf("Delta(%v, %v): %v", from, to, err)
	}
	cut, err := wire.Cut(step, base, b)
	if err != nil {
		t.Fatalf("Cut of step %d by %d: %v", step, base, err)
	}
	var l [][]byte
	for _, p := range cut {
		b, err := wire.Tell(p)
		if err != nil {
			t.Fatalf("Tell(%v): %v", p, err)
		}
		l = append(l, b)
	}
	return l
}

// same fails unless a server is as the model is.
func same(t *testing.T, s *Server, m *model) {
	t.Helper()
	if got, want := s.World(), m.world.Bodies(); !slices.Equal(got, want) || s.Digest() != m.world.Digest() {
		t.Fatalf("World() = %v, want %v", got, want)
	}
	for k := range m.players {
		got, err := s.Sees(k)
		if want := m.sees(k); err != nil || !slices.Equal(got, want) {
			t.Fatalf("Sees(%d) = %v, %v, want %v", k, got, err, want)
		}
	}
}

// equal tells whether two ticks told the same.
func equal(a, b [][][]byte) bool {
	return slices.EqualFunc(a, b, equalDatagrams)
}

func equalDatagrams(a, b [][]byte) bool {
	return slices.EqualFunc(a, b, func(x, y []byte) bool { return slices.Equal(x, y) })
}

// equalServers tells whether all is the same in two servers, in what is kept, too.
func equalServers(a, b *Server) bool { return reflect.DeepEqual(a, b) }

// die tells numbers that look drawn, the same each time.
type die uint64

func (d *die) upTo(many int) int {
	*d = *d*6364136223846793005 + 1442695040888963407
	return int(uint64(*d>>20) % uint64(many))
}

func (d *die) bytes(many int) []byte {
	b := make([]byte, many)
	for i := range b {
		b[i] = byte(d.upTo(256))
	}
	return b
}

// near is a vector within so many halves.
func (d *die) near(halves int) api.Vec {
	f := func() int { return (d.upTo(2*halves+1)-halves)*one/2 + d.upTo(2)*d.upTo(300) }
	return vec(f(), f(), f())
}

func (d *die) shape() api.Shape {
	f := func() int { return (1 + d.upTo(4)) * one / 2 }
	if d.upTo(2) == 0 {
		return ball(f())
	}
	return api.Shape{Kind: api.Block, Size: vec(f(), f(), f())}
}

// body is one that Spawn takes.
func (d *die) body() api.Body {
	return api.Body{
		Id: d.upTo(9), Owner: d.upTo(4), Shape: d.shape(), At: d.near(20), Speed: d.near(2), Push: d.near(1), Mass: d.upTo(4) * one, Teams: d.upTo(8),
	}
}

// player is one that New takes.
func (d *die) player(token int) Player {
	return Player{Token: token, Eye: d.upTo(8), At: d.near(15), Far: d.upTo(12 * one), Teams: 1 + d.upTo(7)}
}
