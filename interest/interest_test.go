package interest

import (
	"slices"
	"testing"

	"gyre/api"
	"gyre/geom"
)

// Promise 7.1: a new grid is empty, and no other one's bodies are there.
func TestNew(t *testing.T) {
	other := New()
	other.Put(seen(1, ball(one), vec(0, 0, 0)))
	g := New()
	same(t, g, model{}, eye(vec(0, 0, 0), farthest), eye(vec(0, 0, 0), -1))
	g.Remove(1)
	same(t, g, model{})
	sees(t, other, eye(vec(0, 0, 0), 0), 1)
}

// Promise 7.1: one body, then more, by answers worked out by hand.
func TestFewBodies(t *testing.T) {
	g := New()
	g.Put(api.Body{Id: 7, Shape: ball(one), At: vec(10*one, 0, 0), Teams: 1})
	g.Put(api.Body{Id: 3, Shape: block(one, 2*one, 3*one), At: vec(0, 10*one, 0), Teams: 2})
	g.Put(api.Body{Id: 5, Shape: ball(one), At: vec(-900*one, 900*one, 0), Teams: 3})
	if got := g.Many(); got != 3 {
		t.Fatalf("Many() = %d", got)
	}
	middle := vec(0, 0, 0)
	for _, c := range []struct {
		far, teams int
		want       []int
	}{
		{0, 3, nil},
		{8*one - 1, 3, nil},
		{8 * one, 3, []int{3}},
		{9*one - 1, 3, []int{3}},
		{9 * one, 3, []int{3, 7}},
		{9 * one, 2, []int{3}},
		{9 * one, 1, []int{7}},
		{9 * one, 4, nil},
		{9 * one, 0, nil},
		{899*one - 1, 3, []int{3, 7}},
		{899 * one, 3, []int{3, 5, 7}},
		{899 * one, 1, []int{5, 7}},
		{899 * one, 2, []int{3, 5}},
		{899 * one, 6, []int{3, 5}},
	} {
		sees(t, g, Eye{At: middle, Far: c.far, Teams: c.teams}, c.want...)
	}
}

// Promise 7.1: boxes meet in a side, an edge, a corner alone; 1 further on they don't; wherever that is in the world.
func TestEdgesOfSight(t *testing.T) {
	d := die(3)
	for _, s := range []api.Shape{ball(1), ball(one), ball(greatest), block(1, one, greatest), block(greatest, greatest, greatest)} {
		for _, far := range []int{0, 1, one, greatest, side - 1, side, side + 1, 7 * side, farthest} {
			for range 12 {
				b := seen(1, s, d.place(farthest))
				g := New()
				g.Put(b)
				edgesAround(t, g, b, far)
			}
		}
	}
}

// edgesAround fails unless a body is seen from all corners of where it is seen from, and not from 1 beside these.
func edgesAround(t *testing.T, g *Grid, b api.Body, far int) {
	t.Helper()
	h := half(b.Shape)
	for _, way := range []api.Vec{vec(1, 0, 0), vec(1, 1, 0), vec(1, -1, 0), vec(1, 1, 1), vec(-1, 1, 1), vec(-1, -1, -1), vec(-1, 0, 0)} {
		for _, w := range turns(way) {
			p := vec(b.At.X+w.X*(h.X+far), b.At.Y+w.Y*(h.Y+far), b.At.Z+w.Z*(h.Z+far))
			sees(t, g, eye(p, far), b.Id)
			if w.X != 0 {
				sees(t, g, eye(vec(p.X+w.X, p.Y, p.Z), far))
			}
			if w.Y != 0 {
				sees(t, g, eye(vec(p.X, p.Y+w.Y, p.Z), far))
			}
			if w.Z != 0 {
				sees(t, g, eye(vec(p.X, p.Y, p.Z+w.Z), far))
			}
		}
	}
}

// Promise 7.1: it is the boxes that count: a Ball is seen past its round, too.
func TestBallsBoxCounts(t *testing.T) {
	g := New()
	g.Put(seen(2, ball(10*one), vec(0, 0, 0)))
	sees(t, g, eye(vec(10*one, 10*one, -10*one), 0), 2)
	sees(t, g, eye(vec(10*one, 10*one, -10*one-1), 0))
	sees(t, g, eye(vec(12*one, -12*one, 12*one), 2*one), 2)
}

// Promise 7.1: below 0 none; 0 is what the eye is in; as far as there are numbers is all.
func TestFar(t *testing.T) {
	g := New()
	for i := range 9 {
		g.Put(seen(i, ball(one), vec(250*one*(i-4), 0, 0)))
	}
	for _, far := range []int{-1, -2, -one, -top, -top - 1, low, low + 1} {
		sees(t, g, eye(vec(0, 0, 0), far))
	}
	sees(t, g, eye(vec(0, 0, 0), 0), 4)
	for _, far := range []int{farthest, 2 * farthest, top, top + 1, most} {
		sees(t, g, eye(vec(0, 0, 0), far), 0, 1, 2, 3, 4, 5, 6, 7, 8)
	}
	for _, far := range []int{2*farthest - one, 2 * farthest, top, most} {
		sees(t, g, eye(vec(-farthest, 0, 0), far), 0, 1, 2, 3, 4, 5, 6, 7, 8)
	}
	sees(t, g, eye(vec(-farthest, 0, 0), 2*farthest-one-1), 0, 1, 2, 3, 4, 5, 6, 7)
}

// Promise 7.1: one bit that both have is enough; the bits of numbers below 0 count, too.
func TestTeams(t *testing.T) {
	teams := []int{0, 1, 2, 3, 4, 7, 8, 1 << 40, 1 << 62, most, -1, -2, low, low + 1, -1 << 40}
	for _, a := range teams {
		for _, b := range teams {
			g := New()
			g.Put(api.Body{Id: 1, Shape: ball(one), Teams: a})
			got := g.Sees(Eye{Teams: b})
			if want := a&b != 0; len(got) == 1 != want {
				t.Errorf("an eye of teams %d sees %v, of teams %d", b, got, a)
			}
		}
	}
}

// Promise 7.1: an eye may be anywhere: what it sees is by the words of 1.1 and 2.1, which cut its place and how far it looks.
func TestEyesAnywhere(t *testing.T) {
	g, m := New(), model{}
	for i, p := range []int{-farthest, -farthest + 1, 0, farthest - 1, farthest} {
		for j, at := range []api.Vec{vec(p, 0, 0), vec(0, p, 0), vec(0, 0, p), vec(p, p, p), vec(p, -p, p)} {
			put(g, m, seen(10*i+j, block(greatest, one, 1), at))
		}
	}
	d := die(5)
	places := []int{0, farthest, -farthest, farthest + greatest, farthest + greatest + 1, -farthest - greatest, top, -top, top + 1, -top - 1, most, low, low + 1}
	fars := []int{low, -1, 0, 1, greatest, farthest, top - farthest, top - farthest - greatest - 1, top - 1, top, top + 1, most - 1, most}
	place := func() int { return places[d.upTo(len(places))] }
	var eyes []Eye
	for _, far := range fars {
		for range 300 {
			eyes = append(eyes, eye(vec(place(), place(), place()), far))
		}
	}
	same(t, g, m, eyes...)
	// What is cut: from beyond Top an eye looks as far as from Top.
	sees(t, g, eye(vec(most, 0, 0), top-farthest-greatest-1))
	sees(t, g, eye(vec(most, 0, 0), top-farthest-greatest), 40, 43, 44)
}

// Promise 7.1: a body that is put anew is the new one alone: its place, its shape, its teams.
func TestPutAnew(t *testing.T) {
	g, m := New(), model{}
	put(g, m, seen(1, ball(one), vec(0, 0, 0)), seen(2, ball(one), vec(0, 0, 0)), seen(3, ball(one), vec(500*one, 0, 0)))
	for _, b := range []api.Body{
		seen(2, ball(one), vec(0, 0, 0)),
		seen(2, ball(one), vec(3*one, 0, 0)),
		seen(2, block(one, one, one), vec(3*one, 0, 0)),
		seen(2, ball(greatest), vec(3*one, 0, 0)),
		seen(2, ball(1), vec(3*one, 0, 0)),
		seen(2, ball(1), vec(500*one, 0, 0)),
		seen(2, ball(1), vec(-farthest, farthest, -farthest)),
		seen(2, ball(1), vec(farthest, -farthest, farthest)),
		{Id: 2, Shape: ball(1), At: vec(farthest, -farthest, farthest)},
		{Id: 2, Shape: ball(one), At: vec(0, 0, 0), Teams: 4},
		{Id: 2, Shape: ball(one), At: vec(0, 0, 0), Teams: 3},
	} {
		was := m[2]
		put(g, m, b)
		same(t, g, m, eye(was.At, 0), Eye{At: b.At, Teams: 1}, Eye{At: b.At, Teams: 4}, eye(vec(0, 0, 0), 10*one))
	}
	sees(t, g, Eye{Teams: 4}, 1)
	sees(t, g, Eye{Teams: 3}, 1, 2)
}

// Promise 7.1: Remove: what was not put, what is gone already; what is put again is there again.
func TestRemove(t *testing.T) {
	d := die(7)
	g, m := New(), model{}
	for i := range 30 {
		put(g, m, d.body(i, 300*one))
	}
	for _, id := range []int{-1, 30, most, low} {
		g.Remove(id)
	}
	same(t, g, m)
	for i, id := range d.order(30) {
		remove(g, m, id)
		same(t, g, m)
		remove(g, m, id)
		same(t, g, m)
		if i%3 == 0 {
			put(g, m, d.body(id, 300*one))
			same(t, g, m)
		}
	}
	for id := range 30 {
		remove(g, m, id)
	}
	same(t, g, model{})
	put(g, m, d.body(4, one))
	same(t, g, m)
}

// Promise 7.1: any number may name a body; the answers rise by it.
func TestNumbers(t *testing.T) {
	g := New()
	for _, id := range []int{0, most, -1, low, 1, 60, -60, low + 1, most - 1, 1 << 32, -1 << 32} {
		g.Put(seen(id, ball(one), vec(0, 0, 0)))
	}
	sees(t, g, eye(vec(0, 0, 0), 0), low, low+1, -1<<32, -60, -1, 0, 1, 60, 1<<32, most-1, most)
	g.Remove(low)
	g.Remove(0)
	sees(t, g, eye(vec(0, 0, 0), 0), low+1, -1<<32, -60, -1, 1, 60, 1<<32, most-1, most)
}

// Promise 7.1: the numbers rise through all cells, whichever way they lie in the world.
func TestRisingThroughCells(t *testing.T) {
	d := die(9)
	for _, many := range []int{2, 10, 500} {
		g, want := New(), []int{}
		for i, id := range d.order(many) {
			g.Put(seen(id, ball(1), vec(2*farthest/many*i-farthest, d.within(farthest), d.within(farthest))))
			want = append(want, i)
		}
		sees(t, g, eye(vec(0, 0, 0), farthest), want...)
	}
}

// Promise 7.1: more bodies than a world may have are there, too, in one cell as in all.
func TestCrowd(t *testing.T) {
	for _, far := range []int{one, 150 * one, farthest} {
		d := die(far)
		g, m := New(), model{}
		for i := range 3000 {
			put(g, m, d.body(i, far))
		}
		for i := range 1000 {
			if i%2 == 0 {
				remove(g, m, d.upTo(3000))
			} else {
				put(g, m, d.body(d.upTo(3000), far))
			}
		}
		if g.Many() != len(m) {
			t.Fatalf("Many() = %d, want %d", g.Many(), len(m))
		}
		for _, e := range d.eyes(150) {
			sees(t, g, e, m.sees(e)...)
		}
		sound(t, g)
	}
}

// Promise 7.1: whichever bodies are put, moved and taken away, what an eye sees.
func TestDrawnGrids(t *testing.T) {
	d := die(11)
	for range 150 {
		g, m := New(), model{}
		ids, far := 1+d.upTo(60), []int{10 * one, 120 * one, farthest}[d.upTo(3)]
		for range 60 {
			id := d.upTo(ids)
			if d.upTo(4) == 0 {
				remove(g, m, id)
			} else {
				put(g, m, d.body(id, far))
			}
			same(t, g, m, d.eyes(8)...)
		}
	}
}

// Promise 7.1: bodies that go on little by little, through the borders of cells, and to the ends of the world.
func TestMovingBodies(t *testing.T) {
	for _, way := range []api.Vec{vec(1, 0, 0), vec(1, 1, 0), vec(1, -1, 1), vec(-1, 0, 1)} {
		for _, w := range turns(way) {
			g, m := New(), model{}
			put(g, m, seen(9, ball(one), vec(0, 0, 0)))
			for _, n := range steps() {
				b := seen(4, block(one, 2*one, 3*one), vec(w.X*n, w.Y*n, w.Z*n))
				put(g, m, b)
				sees(t, g, eye(b.At, 0), m.sees(eye(b.At, 0))...)
				same(t, g, m, eye(vec(b.At.X-2*one, b.At.Y, b.At.Z), one), eye(vec(b.At.X, b.At.Y+4*one, b.At.Z), one))
			}
		}
	}
}

// steps are places on a way through the world: some, and all beside which a border of cells lies.
func steps() []int {
	var l []int
	for n := -farthest; n <= farthest; n += side / 4 {
		for _, by := range []int{-1, 0, 1} {
			if n+by >= -farthest && n+by <= farthest {
				l = append(l, n+by)
			}
		}
	}
	return l
}

// Promise 7.1, P4: what an eye sees hangs on the bodies that are there, not on how they came.
func TestHowItCameIsNotSeen(t *testing.T) {
	d := die(13)
	for range 40 {
		bodies, eyes := make([]api.Body, 40), d.eyes(30)
		plainly := New()
		for i := range bodies {
			bodies[i] = d.body(i, farthest)
			plainly.Put(bodies[i])
		}
		want := asked(plainly, eyes)
		g := New()
		for _, i := range d.order(40) {
			g.Put(d.body(i, farthest))
			g.Put(d.body(100+i, farthest))
		}
		for _, i := range d.order(40) {
			g.Remove(100 + i)
			if d.upTo(2) == 0 {
				g.Remove(i)
			}
			g.Put(bodies[i])
		}
		if got := asked(g, eyes); got != want {
			t.Fatalf("%s, want %s", got, want)
		}
	}
}

// Promise 7.1: nothing else of a body counts.
func TestOtherParts(t *testing.T) {
	d := die(15)
	bare, dressed := New(), New()
	for i := range 50 {
		b := d.body(i, farthest)
		dressed.Put(b)
		bare.Put(api.Body{Id: b.Id, Shape: b.Shape, At: b.At, Teams: b.Teams})
	}
	eyes := d.eyes(300)
	if got, want := asked(dressed, eyes), asked(bare, eyes); got != want {
		t.Fatalf("%s, want %s", got, want)
	}
}

// P4: what comes out is the caller's, and asking changes nothing.
func TestAnswersAreFresh(t *testing.T) {
	d := die(17)
	g, m := New(), model{}
	for i := range 40 {
		put(g, m, seen(i, ball(one), d.place(2*one)))
	}
	e := eye(vec(0, 0, 0), 3*one)
	a, b := g.Sees(e), g.Sees(e)
	for i := range a {
		a[i] = -9
	}
	_ = append(a, -9)
	if !slices.Equal(b, m.sees(e)) || len(b) < 2 {
		t.Fatalf("an answer became %v", b)
	}
	same(t, g, m, e)
}

// P1: every call ends, and none panics, whichever bodies come; those that may be are seen as ever, and behind Remove all is as it was.
func TestWrongBodies(t *testing.T) {
	d := die(19)
	g, m := New(), model{}
	for i := range 40 {
		put(g, m, d.body(i, farthest))
	}
	n := []int{0, 1, -1, one, -one, greatest + 1, farthest + 1, -farthest - 1, top, -top, top + 1, most, low}
	number := func() int { return n[d.upTo(len(n))] }
	anything := func() api.Vec { return vec(number(), number(), number()) }
	eyes := d.eyes(40)
	for range 300 {
		g.Put(api.Body{Id: 50, Shape: api.Shape{Kind: number(), Size: anything()}, At: anything(), Speed: anything(), Push: anything(), Mass: number(), Teams: number()})
		g.Sees(Eye{At: anything(), Far: number(), Teams: number()})
		if got := g.Many(); got != 41 {
			t.Fatalf("Many() = %d", got)
		}
		for _, e := range eyes {
			right := slices.DeleteFunc(g.Sees(e), func(id int) bool { return id == 50 })
			if want := m.sees(e); !slices.Equal(right, want) {
				t.Fatalf("Sees(%v) = %v, want %v", e, right, want)
			}
		}
		sound(t, g)
	}
	g.Remove(50)
	same(t, g, m, eyes...)
}

// A narrow box is looked for cell by cell, a wide one in those that have bodies alone: none is gone through twice, and there are never more than bodies.
func TestCellsNear(t *testing.T) {
	narrow := geom.Box{Low: vec(0, 0, 0), High: vec(0, 0, 0)}
	wide := geom.Box{Low: vec(-farthest, -farthest, -farthest), High: vec(farthest, farthest, farthest)}
	g, m := New(), model{}
	if l := cellsNear(g, wide); len(l) != 0 {
		t.Fatalf("%v of an empty grid", l)
	}
	put(g, m, seen(1, ball(one), vec(-farthest, 0, 0)), seen(2, ball(one), vec(farthest, 0, 0)), seen(3, ball(one), vec(0, 0, 0)))
	if l := cellsNear(g, wide); len(l) != 3 {
		t.Fatalf("%v of three bodies", l)
	}
	if l := cellsNear(g, narrow); len(l) != 1 || l[0] != cellOf(vec(0, 0, 0)) {
		t.Fatalf("%v near the middle, of three bodies", l)
	}
	d := die(21)
	for i := range 2000 {
		put(g, m, d.body(i, farthest))
	}
	for _, e := range d.eyes(200) {
		box := geom.Fat(geom.Box{Low: e.At, High: e.At}, max(0, e.Far))
		l := cellsNear(g, box)
		if len(l) > len(g.cells) || len(slices.Compact(slices.Clone(l))) != len(l) {
			t.Fatalf("%d cells of %d near %v: %v", len(l), len(g.cells), box, l)
		}
	}
	if l := cellsNear(g, narrow); len(l) > 8 {
		t.Fatalf("%v near the middle", l)
	}
}

// Whoever has enough may stop, both ways in which cells are gone through.
func TestEnough(t *testing.T) {
	g, m, d := New(), model{}, die(23)
	for i := range 500 {
		put(g, m, d.body(i, farthest))
	}
	for _, far := range []int{one, 100 * one, farthest} {
		for enough := range 4 {
			got := 0
			for range g.near(geom.Fat(geom.Box{}, far)) {
				got++
				if got > enough {
					break
				}
			}
			if got != enough+1 {
				t.Fatalf("%d cells, of %d that were asked for", got, enough+1)
			}
		}
	}
}
