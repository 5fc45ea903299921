package server

import (
	"fmt"
	"slices"
	"testing"

	"gyre/api"
	"gyre/plain"
	"gyre/session"
	"gyre/snap"
	"gyre/solve"
	"gyre/world"
)

// Promise 12.1: what world.New says, ahead of all else.
func TestNewOfWorld(t *testing.T) {
	wrong := []api.Body{{}}
	many := make([]Player, owners+1)
	for _, c := range []struct {
		want   api.Errno
		config world.Config
	}{
		{api.ErrRange, world.Config{Fall: vec(0, fastest+1, 0), Law: solve.Law{Rounds: 1}}},
		{api.ErrRange, world.Config{Law: solve.Law{Rounds: 1}, Quota: -1}},
		{api.ErrRange, world.Config{Law: solve.Law{Rounds: 1}, Quota: crowd + 1}},
		{api.ErrArg, world.Config{}},
		{api.ErrArg, world.Config{Law: solve.Law{Rounds: 21}, Quota: crowd}},
		{api.ErrArg, world.Config{Law: solve.Law{Bounce: one + 1, Rounds: 1}}},
		{api.ErrRange, world.Config{Fall: vec(low, most, 0), Quota: most}},
	} {
		asks(t, "a world", c.want, c.config, nil, nil, wide())
		asks(t, "a world, and all else", c.want, c.config, wrong, many, session.Limit{Most: -1})
	}
	asks(t, "the fastest fall", api.OK, world.Config{Fall: vec(0, -fastest, 0), Law: solve.Law{Rounds: 20}}, nil, nil, wide())
}

// Promise 12.1: what Spawn says of bodies, one by one: that of the first one that is wrong, ahead of what is wrong with players.
func TestNewOfBodies(t *testing.T) {
	right, shape, heavy := of(1, vec(0, 0, 0)), of(1, vec(0, 0, 0)), of(1, vec(0, 0, 0))
	shape.Shape.Kind = 3
	heavy.Mass = -1
	few := still()
	few.Quota = 2
	for _, c := range []struct {
		want   api.Errno
		config world.Config
		bodies []api.Body
	}{
		{api.ErrArg, still(), []api.Body{shape}},
		{api.ErrArg, still(), []api.Body{right, right, shape, heavy}},
		{api.ErrRange, still(), []api.Body{right, heavy, shape}},
		{api.ErrRange, still(), []api.Body{of(owners+1, vec(0, 0, 0))}},
		{api.ErrRange, still(), []api.Body{of(-1, vec(0, 0, 0))}},
		{api.ErrRange, still(), []api.Body{of(0, vec(farthest+1, 0, 0))}},
		{api.ErrLimit, few, []api.Body{right, right, right, heavy}},
		{api.ErrRange, few, []api.Body{right, right, heavy, right}},
		{api.OK, few, []api.Body{right, right, of(2, vec(0, 0, 0)), of(0, vec(0, 0, 0)), of(0, vec(0, 0, 0)), of(0, vec(0, 0, 0))}},
		{api.OK, still(), slices.Repeat([]api.Body{right}, crowd)},
		{api.ErrLimit, still(), slices.Repeat([]api.Body{right}, crowd+1)},
	} {
		asks(t, fmt.Sprint(c.bodies), c.want, c.config, c.bodies, nil, wide())
		asks(t, fmt.Sprint(c.bodies), c.want, c.config, c.bodies, alls(2), wide())
		if c.want != api.OK {
			many := make([]Player, owners+1)
			many[0].Far = -1
			asks(t, fmt.Sprint(c.bodies, " and players"), c.want, c.config, c.bodies, many, session.Limit{Most: -1})
		}
	}
}

// Promise 12.1: at most MaxOwners players, which is asked ahead of each of them.
func TestNewOfManyPlayers(t *testing.T) {
	for many := range owners + 1 {
		asks(t, fmt.Sprint(many, " players"), api.OK, still(), nil, alls(many), wide())
	}
	asks(t, "9 players", api.ErrLimit, still(), nil, alls(9), wide())
	asks(t, "9 players, and a limit", api.ErrLimit, still(), nil, alls(9), session.Limit{Each: -1})
	l := alls(500)
	l[0].Far = -1
	asks(t, "500 players, and a wrong one", api.ErrLimit, still(), nil, l, wide())
	l = l[:owners]
	asks(t, "8 players, and a wrong one", api.ErrRange, still(), nil, l, wide())
}

// wrongIn fails unless New says so of a player, wherever it stands.
func wrongIn(t *testing.T, p Player, want api.Errno) {
	t.Helper()
	for _, many := range []int{1, 2, owners} {
		for k := range many {
			l := alls(many)
			l[k] = p
			asks(t, fmt.Sprint(p, " as player ", k, " of ", many), want, still(), apart(1, 2), l, wide())
		}
	}
}

// Promise 12.1: Far is from 0 to MaxPlace.
func TestNewFar(t *testing.T) {
	for _, far := range []int{0, 1, one, farthest - 1, farthest} {
		wrongIn(t, Player{Far: far}, api.OK)
	}
	for _, far := range []int{-1, farthest + 1, -farthest, top, low, most} {
		wrongIn(t, Player{Far: far}, api.ErrRange)
	}
}

// Promise 12.1: At is within MaxPlace, in each direction.
func TestNewAt(t *testing.T) {
	for _, n := range []int{0, one, farthest, -farthest} {
		for _, at := range turns(vec(n, -n, 0)) {
			wrongIn(t, Player{At: at}, api.OK)
		}
	}
	for _, n := range []int{farthest + 1, -farthest - 1, top, low, most} {
		for _, at := range turns(vec(n, 0, farthest)) {
			wrongIn(t, Player{At: at}, api.ErrRange)
		}
	}
}

// Promise 12.1: what session.New says of Token and the limit.
func TestNewOfSessions(t *testing.T) {
	for _, token := range []int{0, 1, top} {
		wrongIn(t, all(token), api.OK)
	}
	for _, token := range []int{-1, top + 1, low, most} {
		wrongIn(t, all(token), api.ErrRange)
	}
	for _, n := range []int{0, 1, 1000} {
		asks(t, "a limit", api.OK, still(), nil, alls(2), session.Limit{Most: n, Each: 1000 - n})
	}
	for _, n := range []int{-1, 1001, low, most} {
		asks(t, "Most", api.ErrRange, still(), nil, alls(2), session.Limit{Most: n})
		asks(t, "Each", api.ErrRange, still(), nil, alls(2), session.Limit{Each: n})
		// Of no player nothing is said.
		asks(t, "no player", api.OK, still(), apart(1), nil, session.Limit{Most: n, Each: n})
	}
}

// Promise 12.1: an eye, and teams, may be anything; two players may have one token.
func TestNewOfAnyPlayer(t *testing.T) {
	for _, n := range []int{low, -1, 0, 1, 99, most} {
		wrongIn(t, Player{Eye: n, Teams: n}, api.OK)
	}
	asks(t, "the same player again", api.OK, still(), nil, []Player{all(5), all(5)}, wide())
}

// Promise 12.1: World and Digest are the world's, with numbers from 1 on, whatever Ids the bodies had.
func TestWorld(t *testing.T) {
	d := die(1)
	for range 50 {
		c := still()
		c.Fall = d.near(1)
		w, err := world.New(c)
		if err != nil {
			t.Fatal(err)
		}
		var bodies []api.Body
		for i := range d.upTo(12) {
			b := d.body()
			bodies = append(bodies, b)
			if id, err := w.Spawn(b); id != i+1 || err != nil {
				t.Fatalf("Spawn(%v) = %d, %v", b, id, err)
			}
		}
		s := made(t, c, bodies, alls(d.upTo(3)), wide())
		for range 5 {
			if got, want := s.World(), w.Bodies(); !slices.Equal(got, want) {
				t.Fatalf("World() = %v, want %v", got, want)
			}
			if got, want := s.Digest(), w.Digest(); got != want {
				t.Fatalf("Digest() = %d, want %d", got, want)
			}
			s.Tick(nil)
			w.Step()
		}
	}
}

// Promise 12.1: there is no player below 0, nor from their number on.
func TestSeesNobody(t *testing.T) {
	for many := range 4 {
		s := plays(t, many, apart(1, 2)...)
		for _, k := range []int{-1, many, many + 1, owners, low, most} {
			v, err := s.Sees(k)
			if e, bare := plain.Bare(err); e != api.ErrRange || !bare || len(v) != 0 {
				t.Fatalf("Sees(%d) of %d = %v, %v", k, many, v, err)
			}
		}
		for k := range many {
			sees(t, s, k, 1, 2)
		}
	}
}

// Promise 12.1: what is seen is Look of the bodies, by their numbers.
func TestSeesByHand(t *testing.T) {
	bodies := []api.Body{
		{Owner: 3, Shape: api.Shape{Kind: api.Block, Size: vec(one, 2*one, 300)}, At: vec(-1, 256, 511), Speed: vec(0, -257, one), Mass: 5, Teams: 1},
		{Shape: ball(one), At: vec(0, 0, 40*one), Teams: 2},
		{Shape: ball(one), At: vec(0, 0, 3*one), Push: vec(1, 1, 1), Teams: 3},
	}
	s := plays(t, 1, bodies...)
	want := snap.View{
		{Id: 1, Kind: 2, Size: vec(256, 512, 1), At: vec(-1, 1, 1), Speed: vec(0, -2, 256)},
		{Id: 3, Kind: 1, Size: vec(256, 0, 0), At: vec(0, 0, 768)},
	}
	if got, err := s.Sees(0); err != nil || !slices.Equal(got, want) {
		t.Fatalf("Sees(0) = %v, %v, want %v", got, err, want)
	}
}

// Promise 12.1: an eye sees as far as Far around it, to the sides of bodies, from the body Eye or from At.
func TestSeesFar(t *testing.T) {
	for _, at := range turns(vec(20*one, 0, 0)) {
		// Body 1 is where the eye is, body 2 so far away that between them there are 20 less a quarter.
		bodies := []api.Body{of(1, vec(0, 0, 0)), of(0, at)}
		gap := 20*one - one/4
		for _, eye := range []int{1, 0, 77} {
			for _, c := range []struct {
				far  int
				want []int
			}{{0, []int{1}}, {gap - 1, []int{1}}, {gap, []int{1, 2}}, {farthest, []int{1, 2}}} {
				s := made(t, still(), bodies, []Player{{Eye: eye, Far: c.far, Teams: 1}}, wide())
				sees(t, s, 0, c.want...)
			}
		}
	}
}

// Promise 12.1: an eye is where its body is, whosever that is and whoever sees it; without one it is at At.
func TestSeesByEye(t *testing.T) {
	bodies := apart(0, 1, 2, 3)
	bodies[3].Teams = 2
	near := 5 * one
	for _, c := range []struct {
		eye  int
		want []int
	}{{1, []int{1}}, {2, []int{2}}, {3, []int{3}}, {4, nil}, {0, []int{2}}, {5, []int{2}}, {-1, []int{2}}, {low, []int{2}}, {most, []int{2}}} {
		p := Player{Eye: c.eye, At: vec(10*one, 0, 0), Far: near, Teams: 1}
		sees(t, made(t, still(), bodies, []Player{p}, wide()), 0, c.want...)
	}
}

// Promise 12.1: an eye sees those that share a bit of Teams with it.
func TestSeesTeams(t *testing.T) {
	bodies := apart(0, 0, 0, 0, 0)
	for i, teams := range []int{0, 1, 2, 3, low} {
		bodies[i].Teams = teams
	}
	for _, c := range []struct {
		teams int
		want  []int
	}{{0, nil}, {1, []int{2, 4}}, {2, []int{3, 4}}, {3, []int{2, 3, 4}}, {4, nil}, {low, []int{5}}, {-1, []int{2, 3, 4, 5}}} {
		sees(t, made(t, still(), bodies, []Player{{Far: farthest, Teams: c.teams}}, wide()), 0, c.want...)
	}
}

// Promise 12.1: each player sees by its own eye.
func TestSeesEach(t *testing.T) {
	p := []Player{{Eye: 1, Teams: 1}, {Eye: 2, Teams: 1}, {Eye: 2}, {At: vec(20*one, 0, 0), Teams: 1}, {At: vec(farthest, 0, 0), Teams: 1}}
	s := made(t, still(), apart(1, 2, 3), p, wide())
	sees(t, s, 0, 1)
	sees(t, s, 1, 2)
	sees(t, s, 2)
	sees(t, s, 3, 3)
	sees(t, s, 4)
}

// Promise 12.1: what is seen is as it is now: an eye goes with its body, and stays at At when that is gone.
func TestSeesNow(t *testing.T) {
	bodies := apart(1, 0, 0)
	bodies[0].Speed = vec(10*one, 0, 0)
	bodies[0].At = vec(0, 2*one, 0)
	p := all(100)
	p.Eye, p.Far, p.At = 1, 3*one, vec(20*one, 0, 0)
	s := made(t, still(), bodies, []Player{p}, wide())
	sees(t, s, 0, 1)
	s.Tick(nil)
	sees(t, s, 0, 1, 2)
	s.Tick(nil)
	sees(t, s, 0, 1, 3)
	s.Tick(nil)
	sees(t, s, 0, 1)
	s.Tick([]Came{removes(t, 0, 1, 1)})
	sees(t, s, 0, 3)
}

// Promise 12.1: to be asked changes nothing.
func TestAskingChangesNothing(t *testing.T) {
	a, b := plays(t, 2, apart(1, 2, 0)...), plays(t, 2, apart(1, 2, 0)...)
	for i := range 50 {
		for range 3 {
			a.World()
			a.Digest()
			for _, k := range []int{-1, 0, 1, 2} {
				a.Sees(k)
			}
		}
		l := []Came{acks(t, 0, i, i)}
		if x, y := a.Tick(l), b.Tick(l); !equal(x, y) {
			t.Fatalf("tick %d: %x, want %x", i, x, y)
		}
	}
	if !equalServers(a, b) {
		t.Fatal("the one that was asked is another one")
	}
}

// P4: lists that are handed in to New are neither written into nor kept, nor what stands behind them.
func TestNewKeepsNothing(t *testing.T) {
	bodies := apart(1, 2, 0)
	players := alls(3)
	bodiesWere, playersWere := slices.Clone(bodies), slices.Clone(players)
	s := made(t, still(), bodies[:2], players[:2], wide())
	if !slices.Equal(bodies, bodiesWere) || !slices.Equal(players, playersWere) {
		t.Fatal("New writes into what it is given")
	}
	clear(bodies)
	clear(players)
	sees(t, s, 0, 1, 2)
	sees(t, s, 1, 1, 2)
	based(t, s.Tick([]Came{pushes(t, 1, 0, 2, vec(1, 2, 3))})[1], 1, 0)
	if pushed(t, s, 2) != vec(1, 2, 3) {
		t.Fatal("player 1 does not own body 2 any more")
	}
}

// P4: what World and Sees tell is the caller's.
func TestAnswersAreFresh(t *testing.T) {
	s, other := plays(t, 2, apart(1, 2, 0)...), plays(t, 2, apart(1, 2, 0)...)
	for range 2 {
		w, v := s.World(), mustSee(t, s, 0)
		also := []snap.View{mustSee(t, s, 0), mustSee(t, s, 1)}
		clear(w[:cap(w)])
		clear(v[:cap(v)])
		for _, a := range also {
			if !slices.Equal(a, mustSee(t, other, 0)) {
				t.Fatalf("two answers share memory: %v", a)
			}
		}
		if !slices.Equal(s.World(), other.World()) || !slices.Equal(mustSee(t, s, 0), mustSee(t, other, 0)) {
			t.Fatal("what was told is kept")
		}
		if !equal(s.Tick(nil), other.Tick(nil)) {
			t.Fatal("what is sent hangs on what was done to an answer")
		}
	}
}

func mustSee(t *testing.T, s *Server, k int) snap.View {
	t.Helper()
	v, err := s.Sees(k)
	if err != nil {
		t.Fatal(err)
	}
	return v
}
