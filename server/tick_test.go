package server

import (
	"fmt"
	"slices"
	"testing"

	"gyre/api"
	"gyre/session"
	"gyre/snap"
	"gyre/wire"
)

// Promise 12.2: datagrams worked out by hand.
func TestTickByHand(t *testing.T) {
	b := of(1, vec(0, -one, 0))
	b.Shape = ball(one)
	p := Player{Token: 1, Far: farthest, Teams: 1}
	s := made(t, still(), []api.Body{b}, []Player{p, {Far: 0, Teams: 2}}, wide())
	// Step 1 by step 0, one piece: 01 000000 001, nine Ints (Size.X 256, At.Y -256), 11, filled up.
	change, err := snap.Delta(nil, snap.View{{Id: 1, Kind: 1, Size: vec(256, 0, 0), At: vec(0, -256, 0)}})
	if err != nil {
		t.Fatal(err)
	}
	got := s.Tick(nil)
	if len(got) != 2 || len(got[0]) != 1 || len(got[1]) != 1 {
		t.Fatalf("step 1: %x", got)
	}
	// Step 1, base 0, Many 1, Index 0: who sees nothing is told that, by the byte c0.
	if want := []byte{0x04, 0x00, 0x40, 0x03, 0x80}; !slices.Equal(got[1][0], want) {
		t.Fatalf("step 1: %x, want %x", got[1][0], want)
	}
	if q := pieces(t, got[0])[0]; q.Step != 1 || q.Base != 0 || q.Index != 0 || q.Many != 1 || !slices.Equal(q.Bytes, change) {
		t.Fatalf("step 1: %v", q)
	}
	// Token 1, Number 0, Seen 1, Kind 0: nothing changed since then.
	got = s.Tick([]Came{{Bytes: []byte{0x04, 0x00, 0x40}}})
	if want := []byte{0x08, 0x10, 0x40, 0x03, 0x80}; !slices.Equal(got[0][0], want) {
		t.Fatalf("step 2: %x, want %x", got[0][0], want)
	}
	// Token 1, Number 2, Seen 3, Kind 2, Body 1: step 3 was seen by nobody yet, but the body goes.
	got = s.Tick([]Came{{Bytes: ask(t, wire.Command{Token: 1, Number: 2, Seen: 3, Kind: wire.Remove, Body: 1})}})
	// Step 3 by step 1: 00 000000 11: it is gone.
	if want := []byte{0x0c, 0x10, 0x40, 0x04, 0x01, 0x80}; !slices.Equal(got[0][0], want) {
		t.Fatalf("step 3: %x, want %x", got[0][0], want)
	}
}

// Promise 12.2: each player gets its own datagrams, in their order, however many there are; a step goes by without any, too.
func TestTickTellsEach(t *testing.T) {
	for many := range owners + 1 {
		bodies := apart(1, 2)
		bodies[0].Speed = vec(7, 0, 0)
		s := plays(t, many, bodies...)
		for step := 1; step <= 5; step++ {
			got := s.Tick(nil)
			if len(got) != many {
				t.Fatalf("%d players, %d lists", many, len(got))
			}
			for k := range got {
				based(t, got[k], step, 0)
			}
			if at := s.World()[0].At.X; at != 7*step {
				t.Fatalf("step %d: X is %d", step, at)
			}
		}
	}
}

// Promise 12.2: what is told is what the player sees behind the step, not ahead of it.
func TestTickTellsWhatIsSeen(t *testing.T) {
	bodies := apart(1, 2)
	bodies[0].Speed = vec(0, 500, -300)
	s := plays(t, 2, bodies...)
	for step := 1; step < 9; step++ {
		got := s.Tick(nil)
		for k := range 2 {
			if want := told(t, step, 0, nil, mustSee(t, s, k)); !equalDatagrams(got[k], want) {
				t.Fatalf("step %d: player %d gets %x, want %x", step, k, got[k], want)
			}
		}
	}
}

// Promise 12.2: a view of many bytes comes in several pieces: all of a world's bodies.
func TestTickTellsMuch(t *testing.T) {
	var bodies []api.Body
	for i := range crowd {
		b := of(1, vec(farthest-30*i*one, -farthest+33*i*one, 16*i*one))
		b.Mass, b.Speed = 0, vec(-fastest+i, fastest-i, i*one)
		bodies = append(bodies, b)
	}
	s := plays(t, 1, bodies...)
	for step := 1; step < 20; step++ {
		got := s.Tick(nil)
		view := mustSee(t, s, 0)
		if len(view) != crowd || len(got[0]) < 10 {
			t.Fatalf("%d bodies in %d datagrams", len(view), len(got[0]))
		}
		for i, p := range pieces(t, got[0]) {
			if p.Index != i || p.Many != len(got[0]) || p.Step != step || p.Base != 0 {
				t.Fatalf("piece %d: %v", i, p)
			}
		}
		if want := told(t, step, 0, nil, view); !equalDatagrams(got[0], want) {
			t.Fatalf("step %d: %x, want %x", step, got[0], want)
		}
	}
}

// Promise 12.2: nothing is told where Delta or Cut tell an error.
func TestTellsNothing(t *testing.T) {
	var wide snap.View
	for id := 1; id <= crowd; id++ {
		n := 1<<40 - id
		wide = append(wide, snap.Seen{Id: id, Kind: 7, Size: vec(n, -n, n), At: vec(-n, n, -n), Speed: vec(n, n, -n)})
	}
	for len(wide) > 0 {
		b, err := snap.Delta(nil, wide)
		got := datagrams(3, kept{}, wide)
		if (err != nil) != (len(got) == 0) {
			t.Fatalf("%d bodies: %v, %d datagrams", len(wide), err, len(got))
		}
		if want := (len(b) + 99) / 100; err == nil && len(got) != want {
			t.Fatalf("%d bytes in %d datagrams, want %d", len(b), len(got), want)
		}
		wide = wide[1:]
	}
	view := snap.View{{Id: 5}}
	for _, c := range []struct {
		step, base int
		to         snap.View
		many       int
	}{
		{3, 2, view, 1}, {3, 3, view, 0}, {0, 0, view, 0}, {-1, 0, view, 0}, {3, -1, view, 0}, {top, top - 1, view, 1}, {top + 1, top, view, 0},
		{3, 2, snap.View{{Id: 0}}, 0}, {3, 2, snap.View{{Id: 6}, {Id: 5}}, 0},
	} {
		if got := datagrams(c.step, kept{c.base, view}, c.to); len(got) != c.many {
			t.Fatalf("step %d by %d of %v: %x", c.step, c.base, c.to, got)
		}
	}
}

// Promise 12.2: what comes of no player is nothing, whatever token it has.
func TestFromNobody(t *testing.T) {
	for many := range 4 {
		s := plays(t, many, apart(1, 2, 3, 4)...)
		was := s.Digest()
		for _, k := range []int{-1, -2, many, many + 1, owners, low, most} {
			for token := range many + 1 {
				c := wire.Command{Token: 100 + token, Number: 1, Kind: wire.Remove, Body: token + 1}
				s.Tick([]Came{{From: k, Bytes: ask(t, c)}})
			}
		}
		if s.Digest() != was {
			t.Fatal("nobody changes the world")
		}
		// Nothing was taken of the players' sessions.
		for k := range many {
			s.Tick([]Came{removes(t, k, 1, k+1)})
		}
		if got := ids(s); len(got) != 4-many {
			t.Fatalf("%d players leave %v", many, got)
		}
	}
}

// Promise 12.2: a player has its own token alone; one that comes with another one's is nothing, for that one, too.
func TestAnothersToken(t *testing.T) {
	s := plays(t, 2, apart(1, 2)...)
	for k := range 2 {
		for _, token := range []int{0, 99, 101 - k, 102, top} {
			for body := 1; body <= 2; body++ {
				c := wire.Command{Token: token, Number: 1, Seen: 1, Kind: wire.Remove, Body: body}
				got := s.Tick([]Came{{From: k, Bytes: ask(t, c)}})
				based(t, got[k], s.world.Steps(), 0)
			}
		}
	}
	if got := ids(s); len(got) != 2 {
		t.Fatalf("there are %v", got)
	}
	s.Tick([]Came{removes(t, 0, 1, 1), removes(t, 1, 1, 2)})
	if got := ids(s); len(got) != 0 {
		t.Fatalf("there are %v", got)
	}
}

// Promise 12.2: what is no command is nothing, and takes nothing of the session.
func TestNoCommand(t *testing.T) {
	limit := session.Limit{Most: 1}
	right := pushes(t, 0, 5, 1, vec(1, 2, 3)).Bytes
	wrong := [][]byte{nil, {}, {0}, {0xff}, slices.Repeat([]byte{0xff}, 5000), make([]byte, 5000), append(slices.Clone(right), 0)}
	for long := range right {
		wrong = append(wrong, right[:long])
	}
	for bit := range 8 * len(right) {
		b := slices.Clone(right)
		b[bit/8] ^= 128 >> (bit % 8)
		if _, err := wire.Asked(b); err != nil {
			wrong = append(wrong, b)
		}
	}
	s := made(t, still(), apart(1), alls(1), limit)
	for _, b := range wrong {
		s.Tick([]Came{{Bytes: b}})
		if pushed(t, s, 1) != vec(0, 0, 0) {
			t.Fatalf("%.30x pushes", b)
		}
	}
	s.Tick([]Came{{Bytes: right}})
	if pushed(t, s, 1) != vec(1, 2, 3) {
		t.Fatal("the right one does not push")
	}
}

// Promise 12.2: what is no command is not taken as one of noughts alone, either.
func TestNoCommandOfNoughts(t *testing.T) {
	s := made(t, still(), apart(1), []Player{{}}, session.Limit{Most: 1})
	s.Tick([]Came{{Bytes: []byte{1, 2, 3}}, {Bytes: nil}})
	s.Tick([]Came{{Bytes: ask(t, wire.Command{Kind: wire.Push, Body: 1, Way: vec(1, 2, 3)})}})
	if pushed(t, s, 1) != vec(1, 2, 3) {
		t.Fatal("number 0 of token 0 does not push")
	}
}

// Promise 12.2: a piece that a server told is no command of a client but by its form; whatever it is, others' bodies stay.
func TestEcho(t *testing.T) {
	s := plays(t, 1, apart(0, 2)...)
	was := s.Digest()
	for range 40 {
		var l []Came
		for _, b := range s.Tick(nil)[0] {
			l = append(l, Came{Bytes: b})
		}
		s.Tick(l)
	}
	if s.Digest() != was {
		t.Fatal("the world changes by what was told")
	}
}

// Promise 12.2: what Take refuses is nothing: neither its Seen nor what it asks for.
func TestNotTaken(t *testing.T) {
	refused := func(t *testing.T, s *Server, number int) {
		t.Helper()
		seen, push := s.clients[0].seen, pushed(t, s, 1)
		steps := s.world.Steps()
		c := wire.Command{Number: number, Seen: steps, Kind: wire.Push, Body: 1, Way: vec(9, 9, number%50)}
		based(t, s.Tick([]Came{from(t, 0, c)})[0], steps+1, seen)
		if pushed(t, s, 1) != push {
			t.Fatalf("number %d pushes", number)
		}
	}
	s := plays(t, 1, apart(1)...)
	goes(s, 3)
	s.Tick([]Came{from(t, 0, wire.Command{Number: 100, Seen: 2, Kind: wire.Push, Body: 1, Way: vec(1, 0, 0)})})
	refused(t, s, 100) // twice
	refused(t, s, 36)  // 64 below the newest one
	refused(t, s, 0)
	s.Tick([]Came{pushes(t, 0, 37, 1, vec(2, 0, 0))})
	if pushed(t, s, 1) != vec(2, 0, 0) {
		t.Fatal("number 37 is taken: 63 below the newest one")
	}
	refused(t, s, 37)

	s = made(t, still(), apart(1), alls(1), session.Limit{})
	for number := range 5 {
		refused(t, s, number) // none is left, ever
	}
}

// Promise 12.2: each session Ticks, once a tick: so many commands are taken, and no more.
func TestSessionsTick(t *testing.T) {
	for _, c := range []struct {
		limit session.Limit
		want  []int // how many of five commands are taken, tick by tick
	}{
		{session.Limit{Most: 3, Each: 1}, []int{3, 1, 1, 1}},
		{session.Limit{Most: 3, Each: 0}, []int{3, 0, 0, 0}},
		{session.Limit{Most: 2, Each: 1000}, []int{2, 2, 2, 2}},
		{session.Limit{Most: 9, Each: 2}, []int{5, 5, 3, 2}},
		{session.Limit{Most: 0, Each: 9}, []int{0, 0, 0, 0}},
		{session.Limit{Most: 1000, Each: 1000}, []int{5, 5, 5, 5}},
	} {
		s := made(t, still(), apart(1, 2, 3), alls(3), c.limit)
		number, last := 0, 0
		for i, want := range c.want {
			var l []Came
			for n := range 5 {
				for k := range 3 {
					l = append(l, pushes(t, k, number, k+1, vec(100*i+n+1, 0, 0)))
				}
				number++
			}
			if want > 0 {
				last = 100*i + want
			}
			s.Tick(l)
			for k := range 3 {
				if got := pushed(t, s, k+1).X; got != last {
					t.Fatalf("%v: tick %d: the last one that is taken of player %d is %d, want %d", c.limit, i, k, got, last)
				}
			}
		}
	}
	// Without a command they Tick, too.
	s := made(t, still(), apart(1), alls(1), session.Limit{Most: 4, Each: 1})
	s.Tick([]Came{acks(t, 0, 0, 0), acks(t, 0, 1, 0), acks(t, 0, 2, 0), acks(t, 0, 3, 0)})
	goes(s, 2)
	s.Tick([]Came{pushes(t, 0, 4, 1, vec(1, 0, 0)), pushes(t, 0, 5, 1, vec(2, 0, 0)), pushes(t, 0, 6, 1, vec(3, 0, 0)), pushes(t, 0, 7, 1, vec(4, 0, 0))})
	if got := pushed(t, s, 1).X; got != 3 {
		t.Fatalf("%d commands are taken, want 3", got)
	}
}

// Promise 12.2: no player's commands count for another one: neither their numbers nor how many they are.
func TestSessionsAreApart(t *testing.T) {
	s := made(t, still(), apart(1, 2), alls(2), session.Limit{Most: 1})
	s.Tick([]Came{pushes(t, 0, 1000, 1, vec(1, 0, 0)), pushes(t, 1, 1000, 2, vec(2, 0, 0))})
	if pushed(t, s, 1) != vec(1, 0, 0) || pushed(t, s, 2) != vec(2, 0, 0) {
		t.Fatal("one of them is not taken")
	}
	s = made(t, still(), apart(1, 2), alls(2), wide())
	s.Tick([]Came{acks(t, 0, top, 0), pushes(t, 1, 0, 2, vec(3, 0, 0))})
	if pushed(t, s, 2) != vec(3, 0, 0) {
		t.Fatal("player 1's number 0 is not taken, since player 0's are greater")
	}
}

// Promise 12.2: a command is taken though nothing comes of it: of another one's body, of none.
func TestTakenInVain(t *testing.T) {
	for _, body := range []int{0, 2, 3, 4, top} {
		s := made(t, still(), apart(1, 2, 0), alls(2), session.Limit{Most: 2})
		goes(s, 1)
		got := s.Tick([]Came{
			from(t, 0, wire.Command{Number: 3, Seen: 1, Kind: wire.Remove, Body: body}),
			pushes(t, 0, 3, 1, vec(9, 9, 9)), // twice
			pushes(t, 0, 4, 1, vec(1, 0, 0)),
			pushes(t, 0, 5, 1, vec(2, 0, 0)), // none is left
		})
		based(t, got[0], 2, 1)
		if pushed(t, s, 1) != vec(1, 0, 0) || len(ids(s)) != 3 {
			t.Fatalf("body %d: %v", body, s.World())
		}
	}
}

// Promise 12.2: a Push is the body's from this step on; parts as great as MaxSpeed, too.
func TestPush(t *testing.T) {
	s := plays(t, 2, apart(1, 2)...)
	s.Tick([]Came{pushes(t, 0, 0, 1, vec(1, -2, 3))})
	if b := s.World()[0]; b.Push != vec(1, -2, 3) || b.Speed != vec(1, -2, 3) || b.At != vec(1, -2, 3) {
		t.Fatalf("step 1: %v", b)
	}
	s.Tick(nil)
	if b := s.World()[0]; b.Push != vec(1, -2, 3) || b.Speed != vec(2, -4, 6) || b.At != vec(3, -6, 9) {
		t.Fatalf("step 2: %v", b)
	}
	s.Tick([]Came{pushes(t, 0, 1, 1, vec(fastest, -fastest, 0))})
	if b := s.World()[0]; b.Push != vec(fastest, -fastest, 0) {
		t.Fatalf("step 3: %v", b)
	}
	s.Tick([]Came{pushes(t, 0, 2, 1, vec(5, 0, 0)), pushes(t, 0, 3, 1, vec(0, 0, 0))})
	if pushed(t, s, 1) != vec(0, 0, 0) {
		t.Fatal("the last one does not count")
	}
	if b := s.World()[1]; b.Push != vec(0, 0, 0) || b.At != vec(10*one, 0, 0) {
		t.Fatalf("body 2: %v", b)
	}
}

// Promise 12.2: a Remove takes the body away, ahead of the step; what is asked of it behind that is nothing.
func TestRemove(t *testing.T) {
	// Body 1 would hit body 2.
	bodies := []api.Body{of(1, vec(0, 0, 0)), of(2, vec(one/4, 0, 0)), of(1, vec(9*one, 0, 0))}
	bodies[0].Speed = vec(one/8, 0, 0)
	s := plays(t, 1, bodies...)
	s.Tick([]Came{removes(t, 0, 0, 1), pushes(t, 0, 1, 1, vec(1, 1, 1)), removes(t, 0, 2, 1)})
	if got := s.World(); len(got) != 2 || got[0].Id != 2 || got[0].At != bodies[1].At || got[0].Speed != bodies[1].Speed {
		t.Fatalf("%v", got)
	}
	sees(t, s, 0, 2, 3)
	s.Tick([]Came{removes(t, 0, 3, 3)})
	sees(t, s, 0, 2)
	s.Tick([]Came{removes(t, 0, 4, 2)})
	sees(t, s, 0, 2)
}

// Promise 12.2: datagrams count in the order in which they came, whosever they are.
func TestInOrder(t *testing.T) {
	s := plays(t, 2, apart(1, 2)...)
	s.Tick([]Came{
		pushes(t, 1, 9, 2, vec(1, 0, 0)), pushes(t, 0, 9, 1, vec(2, 0, 0)), pushes(t, 1, 8, 2, vec(3, 0, 0)), pushes(t, 0, 7, 1, vec(4, 0, 0)),
	})
	if pushed(t, s, 1) != vec(4, 0, 0) || pushed(t, s, 2) != vec(3, 0, 0) {
		t.Fatalf("%v", s.World())
	}
	s.Tick([]Came{pushes(t, 0, 10, 1, vec(5, 0, 0)), removes(t, 0, 11, 1)})
	if got := ids(s); !slices.Equal(got, []int{2}) {
		t.Fatalf("%v", got)
	}
}

// Promise 12.2: nobody moves another one's: player k owns the bodies of Owner k + 1 alone.
func TestOwners(t *testing.T) {
	var owner []int
	for o := range owners + 1 {
		owner = append(owner, o)
	}
	for many := range owners + 1 {
		for k := range many {
			for i, o := range owner {
				s := plays(t, many, apart(owner...)...)
				s.Tick([]Came{pushes(t, k, 0, i+1, vec(1, 2, 3))})
				if got := pushed(t, s, i+1) == vec(1, 2, 3); got != (o == k+1) {
					t.Fatalf("player %d pushes a body of %d: %v", k, o, got)
				}
				s.Tick([]Came{removes(t, k, 1, i+1)})
				if got := !slices.Contains(ids(s), i+1); got != (o == k+1) {
					t.Fatalf("player %d removes a body of %d: %v", k, o, got)
				}
				if len(ids(s)) < len(owner)-1 {
					t.Fatalf("player %d leaves %v", k, ids(s))
				}
			}
		}
	}
}

// Promise 12.2: an Ack moves nothing.
func TestAckMovesNothing(t *testing.T) {
	s := plays(t, 1, apart(1, 1)...)
	was := s.Digest()
	for number := range 50 {
		s.Tick([]Came{acks(t, 0, number, number)})
	}
	if s.Digest() != was {
		t.Fatal("the world changes")
	}
}

// Promise 12.2: the base is the step that was seen, if that is one of the 31 steps ahead, else 0.
func TestBase(t *testing.T) {
	for seen := range 40 {
		s := plays(t, 1, apart(1)...)
		goes(s, 40)
		got := s.Tick([]Came{acks(t, 0, 0, seen)})[0]
		for step := 41; step <= 80; step++ {
			want := 0
			if step-seen <= behind {
				want = seen
			}
			based(t, got, step, want)
			got = s.Tick(nil)[0]
		}
	}
}

// Promise 12.2: what is told by a base is what changed since then, and by 0 all of it.
func TestBaseIsWhatWasSeen(t *testing.T) {
	bodies := apart(1, 0, 0)
	bodies[0].Speed, bodies[1].Speed = vec(700, 0, 3*one), vec(0, 800, 0)
	for late := 1; late <= 35; late++ {
		p := all(100)
		p.Far = 40 * one
		s := made(t, still(), bodies, []Player{p}, wide())
		saw := []snap.View{nil}
		for step := 1; step <= 80; step++ {
			var l []Came
			if step > late {
				l = []Came{acks(t, 0, step, step-late)}
			}
			got := s.Tick(l)[0]
			saw = append(saw, mustSee(t, s, 0))
			base := 0
			if step > late && late <= behind {
				base = step - late
			}
			if want := told(t, step, base, saw[base], saw[step]); !equalDatagrams(got, want) {
				t.Fatalf("step %d by %d: %x, want %x", step, base, got, want)
			}
		}
	}
}

// Promise 12.2: a step that is still to come was not seen: at most that which went by last.
func TestSeenTooGreat(t *testing.T) {
	for _, steps := range []int{0, 1, 5, 40} {
		for _, more := range []int{1, 2, 30, top - steps} {
			s := plays(t, 1, apart(1)...)
			goes(s, steps)
			based(t, s.Tick([]Came{acks(t, 0, 0, steps+more)})[0], steps+1, 0)
			// It does not count when that step has come, either.
			goes(s, 35)
			based(t, s.Tick(nil)[0], steps+37, 0)
		}
		s := plays(t, 1, apart(1)...)
		goes(s, steps)
		based(t, s.Tick([]Came{acks(t, 0, 0, steps)})[0], steps+1, steps)
	}
}

// Promise 12.2: what was seen only rises: one that comes late changes nothing.
func TestSeenRises(t *testing.T) {
	s := plays(t, 2, apart(1)...)
	goes(s, 10)
	number := 0
	ack := func(seen ...int) [][]byte {
		var l []Came
		for _, x := range seen {
			l = append(l, acks(t, 0, number, x))
			number++
		}
		return s.Tick(l)[0]
	}
	based(t, ack(4), 11, 4)
	based(t, ack(3), 12, 4)
	based(t, ack(5), 13, 5)
	based(t, ack(0), 14, 5)
	based(t, ack(7, 9, 8), 15, 9)
	based(t, ack(16), 16, 9)
	based(t, ack(20, 16, 2), 17, 16)
	based(t, ack(), 18, 16)
	goes(s, 29)
	based(t, ack(15), 48, 0)
	based(t, ack(40), 49, 40)
}

// Promise 12.2: any command tells what was seen, a Push and a Remove, too.
func TestSeenByAnyKind(t *testing.T) {
	for kind := range 3 {
		for body := range 4 {
			s := plays(t, 2, apart(1, 2)...)
			goes(s, 6)
			got := s.Tick([]Came{from(t, 0, wire.Command{Kind: kind, Body: body, Seen: 5})})
			based(t, got[0], 7, 5)
			based(t, got[1], 7, 0)
		}
	}
}

// Promise 12.2: each player has seen what it tells, not what others tell.
func TestSeenIsEachs(t *testing.T) {
	s := plays(t, 4, apart(1)...)
	goes(s, 20)
	got := s.Tick([]Came{acks(t, 2, 0, 20), acks(t, 0, 0, 3), acks(t, 1, 0, 11)})
	for k, base := range []int{3, 11, 20, 0} {
		based(t, got[k], 21, base)
	}
}

// Promise 12.2: no more is kept than may still be a base.
func TestKeeps(t *testing.T) {
	s := plays(t, 1, apart(1)...)
	c := s.clients[0]
	for step := 1; step <= 70; step++ {
		s.Tick(nil)
		if got, want := len(c.kept), min(step, behind); got != want || c.kept[got-1].step != step {
			t.Fatalf("step %d: %d views are kept, want %d", step, got, want)
		}
	}
	for i, seen := range []int{45, 69, 71, 60} {
		s.Tick([]Came{acks(t, 0, i, seen)})
		if got, want := len(c.kept), min(behind, 71+i-c.seen+1); got != want {
			t.Fatalf("seen %d: %d views are kept, want %d", seen, got, want)
		}
	}
}

// P4: datagrams that are handed in are neither written into nor kept, nor what stands behind them.
func TestTickKeepsNothing(t *testing.T) {
	d := die(2)
	a, b := plays(t, 2, apart(1, 2)...), plays(t, 2, apart(1, 2)...)
	for i := range 60 {
		var l, again []Came
		for k := range 2 {
			x := from(t, k, wire.Command{Number: i, Seen: max(0, i-k), Kind: wire.Push, Body: k + 1, Way: d.near(3)})
			again = append(again, x)
			wide := append(slices.Clone(x.Bytes), d.bytes(20)...)
			l = append(l, Came{From: k, Bytes: wide[:len(x.Bytes)]})
		}
		l = append(l, Came{From: -5})
		was := fmt.Sprint(l, l[0].Bytes[:cap(l[0].Bytes)], l[1].Bytes[:cap(l[1].Bytes)])
		got := a.Tick(l[:2])
		if fmt.Sprint(l, l[0].Bytes[:cap(l[0].Bytes)], l[1].Bytes[:cap(l[1].Bytes)]) != was {
			t.Fatal("Tick writes into what it is given")
		}
		for _, x := range l {
			clear(x.Bytes[:cap(x.Bytes)])
		}
		clear(l)
		if want := b.Tick(again); !equal(got, want) {
			t.Fatalf("tick %d: %x, want %x", i, got, want)
		}
	}
	if !equalServers(a, b) {
		t.Fatal("what was handed in is kept")
	}
}

// P4: what Tick tells is the caller's: no two lists of it share memory, nor is it kept.
func TestDatagramsAreFresh(t *testing.T) {
	var bodies []api.Body
	for i := range crowd {
		bodies = append(bodies, of(1, vec(12*i*one, -7*i*one, i)))
	}
	a, b := plays(t, 3, bodies...), plays(t, 3, bodies...)
	for step := range 40 {
		got, want := a.Tick(nil), b.Tick(nil)
		for k := range got {
			for i := range got[k] {
				if !slices.Equal(got[k][i], want[k][i]) {
					t.Fatalf("step %d: datagram %d of player %d: %x, want %x", step, i, k, got[k][i], want[k][i])
				}
				x := got[k][i][:cap(got[k][i])]
				for n := range x {
					x[n] ^= 0xff
				}
			}
			clear(got[k][:cap(got[k])])
		}
		clear(got[:cap(got)])
	}
	if !equalServers(a, b) {
		t.Fatal("what was told is kept")
	}
}

// P4: no server has to do with another one.
func TestServersAreApart(t *testing.T) {
	a, b, alone := plays(t, 1, apart(1)...), plays(t, 1, apart(1)...), plays(t, 1, apart(1)...)
	for i := range 40 {
		a.Tick([]Came{pushes(t, 0, i, 1, vec(i, 0, 0)), acks(t, 0, 1000+i, i)})
		if x, y := b.Tick(nil), alone.Tick(nil); !equal(x, y) {
			t.Fatalf("tick %d: %x, want %x", i, x, y)
		}
	}
	if !equalServers(b, alone) {
		t.Fatal("the other server's commands count")
	}
}
