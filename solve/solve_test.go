package solve

import (
	"slices"
	"testing"

	"gyre/api"
)

// Promise 4.1: which laws may be, at their edges.
func TestRight(t *testing.T) {
	for _, c := range []struct {
		w    Law
		want bool
	}{
		{Law{0, 0, 1}, true}, {Law{one, one, 20}, true}, {Law{one / 2, one / 3, 8}, true}, {Law{1, one - 1, 19}, true},
		{Law{}, false}, {Law{0, 0, 0}, false}, {Law{0, 0, 21}, false}, {Law{0, 0, -1}, false}, {Law{0, 0, most}, false}, {Law{0, 0, low}, false},
		{Law{-1, 0, 1}, false}, {Law{one + 1, 0, 1}, false}, {Law{most, 0, 1}, false}, {Law{low, 0, 1}, false},
		{Law{0, -1, 1}, false}, {Law{0, one + 1, 1}, false}, {Law{0, most, 1}, false}, {Law{0, low, 1}, false},
		{Law{-1, -1, 0}, false}, {Law{one + 1, one + 1, 21}, false},
	} {
		if got := c.w.Right(); got != c.want {
			t.Errorf("%v.Right() = %v, want %v", c.w, got, c.want)
		}
	}
}

// Example 4: a body that touches one without mass on its way, by a law of Bounce 0.
func TestExample(t *testing.T) {
	for _, mass := range []int{one / 2, one, 2 * one} {
		l := []api.Body{mover(1, mass, vec(10, 0, 0)), mover(2, 0, vec(0, 0, 0))}
		for _, rub := range []int{0, one} {
			checkSpeeds(t, l, []api.Touch{touch(1, 2, vec(one, 0, 0), 0)}, Law{0, rub, 1}, withSpeeds(l, vec(0, 0, 0), vec(0, 0, 0)))
		}
	}
}

// Promise 4.2: two bodies on one line, by their masses and by how much they bounce.
func TestSpeedsBounce(t *testing.T) {
	way := []api.Touch{touch(1, 2, vec(one, 0, 0), 0)}
	for _, c := range []struct {
		massA, massB, a, b int
		bounce             int
		wantA, wantB       int
	}{
		{one, one, 4 * one, 0, 0, 2 * one, 2 * one},
		{one, one, 4 * one, 0, one, 0, 4 * one},
		{one, one, 4 * one, 0, one / 2, one, 3 * one},
		{one, one, one, -3 * one, one, -3 * one, one},
		{one, one, 0, -4 * one, 0, -2 * one, -2 * one},
		// The lighter one gets more.
		{2 * one, one, 3 * one, 0, 0, 2 * one, 2 * one},
		{one, 2 * one, 3 * one, 0, 0, one, one},
		{2 * one, one, 3 * one, 0, one, one, 4 * one},
		// One without mass is not moved, whichever it is.
		{one, 0, 4 * one, 0, 0, 0, 0},
		{one, 0, 4 * one, 0, one, -4 * one, 0},
		{0, one, 4 * one, 0, 0, 4 * one, 4 * one},
		{0, one, 0, -4 * one, one / 2, 0, 2 * one},
		{-1, one, 0, -4 * one, 0, 0, 0},
		{low, one, 0, -4 * one, 0, 0, 0},
		{0, 0, 4 * one, 0, one, 4 * one, 0},
		{-5, 0, 4 * one, -4 * one, one, 4 * one, -4 * one},
		// One that is too heavy is as if it had no mass.
		{1<<32 + 1, one, 4 * one, 0, 0, 4 * one, 4 * one},
		{most, top, 4 * one, 0, 0, 4 * one, 0},
		{1 << 32, 0, 4, 0, 0, 0, 0},
		// They part already, or stay as they are: nothing, not even by Bounce.
		{one, one, 0, 4 * one, one, 0, 4 * one},
		{one, one, -one, one, one, -one, one},
		{one, one, 7 * one, 7 * one, one, 7 * one, 7 * one},
		{one, one, 7, 8, one, 7, 8},
		{one, one, 8, 6, 0, 7, 7},
		// What falls between two numbers is lost: a 65,536th that is halved, a hit against what is very light.
		{one, one, 8, 7, 0, 8, 7},
		{1, 0, 10, 0, 0, 10, 0},
	} {
		l := []api.Body{mover(1, c.massA, vec(c.a, 0, 0)), mover(2, c.massB, vec(c.b, 0, 0))}
		checkSpeeds(t, l, way, Law{c.bounce, 0, 1}, withSpeeds(l, vec(c.wantA, 0, 0), vec(c.wantB, 0, 0)))
	}
}

// Promise 4.2: what lies across the way is rubbed off: by j Mul Rub, but not turned round.
func TestSpeedsRub(t *testing.T) {
	wall := []api.Touch{touch(1, 2, vec(one, 0, 0), 0)}
	for _, c := range []struct {
		a, b   api.Vec
		massB  int
		w      Law
		wa, wb api.Vec
	}{
		{vec(3*one, 4*one, 0), vec(0, 0, 0), 0, Law{0, 0, 1}, vec(0, 4*one, 0), vec(0, 0, 0)},
		{vec(3*one, 4*one, 0), vec(0, 0, 0), 0, Law{0, one / 2, 1}, vec(0, 5*one/2, 0), vec(0, 0, 0)},
		{vec(3*one, 4*one, 0), vec(0, 0, 0), 0, Law{0, one, 1}, vec(0, one, 0), vec(0, 0, 0)},
		{vec(3*one, -4*one, 0), vec(0, 0, 0), 0, Law{0, one, 1}, vec(0, -one, 0), vec(0, 0, 0)},
		{vec(5*one, 4*one, 0), vec(0, 0, 0), 0, Law{0, one, 1}, vec(0, 0, 0), vec(0, 0, 0)},
		{vec(5*one, 0, -4*one), vec(0, 0, 0), 0, Law{0, one, 1}, vec(0, 0, 0), vec(0, 0, 0)},
		{vec(4*one, 4*one, 0), vec(0, 0, 0), 0, Law{0, one, 1}, vec(0, 0, 0), vec(0, 0, 0)},
		// What bounces harder rubs more.
		{vec(3*one, 0, 8*one), vec(0, 0, 0), 0, Law{one, one / 2, 1}, vec(-3*one, 0, 5*one), vec(0, 0, 0)},
		// The wall moves itself: it carries along.
		{vec(3*one, 0, 0), vec(0, 2*one, 0), 0, Law{0, one, 1}, vec(0, 2*one, 0), vec(0, 2*one, 0)},
		// Both are moved, each by half.
		{vec(4*one, 2*one, 0), vec(0, 0, 0), one, Law{0, one / 4, 1}, vec(2*one, 3*one/2, 0), vec(2*one, one/2, 0)},
		{vec(4*one, 2*one, 0), vec(0, 0, 0), one, Law{0, one, 1}, vec(2*one, one, 0), vec(2*one, one, 0)},
		// Without a hit nothing rubs.
		{vec(0, 4*one, 0), vec(0, 0, 0), 0, Law{0, one, 1}, vec(0, 4*one, 0), vec(0, 0, 0)},
		{vec(-1, 4*one, 0), vec(0, 0, 0), 0, Law{0, one, 20}, vec(-1, 4*one, 0), vec(0, 0, 0)},
		// What is so short that its Long is 0 is not rubbed.
		{vec(3*one, 255, 255), vec(0, 0, 0), 0, Law{0, one, 1}, vec(0, 255, 255), vec(0, 0, 0)},
		{vec(3*one, 256, 0), vec(0, 0, 0), 0, Law{0, one, 1}, vec(0, 0, 0), vec(0, 0, 0)},
		// A second round finds nothing to hit, and so nothing to rub.
		{vec(3*one, 4*one, 0), vec(0, 0, 0), 0, Law{0, one, 20}, vec(0, one, 0), vec(0, 0, 0)},
	} {
		l := []api.Body{mover(1, one, c.a), mover(2, c.massB, c.b)}
		checkSpeeds(t, l, wall, c.w, withSpeeds(l, c.wa, c.wb))
	}
}

// Promise 4.2: round by round, touch by touch, in the order in which they are told, each by what the one ahead left.
func TestSpeedsRounds(t *testing.T) {
	x := vec(one, 0, 0)
	l := []api.Body{mover(1, one, vec(8*one, 0, 0)), mover(2, one, vec(0, 0, 0)), mover(3, one, vec(0, 0, 0))}
	late := []api.Touch{touch(2, 3, x, 0), touch(1, 2, x, 0)}
	soon := []api.Touch{touch(1, 2, x, 0), touch(2, 3, x, 0)}
	for _, c := range []struct {
		touches []api.Touch
		rounds  int
		a, b, c int
	}{
		{late, 1, 4 * one, 4 * one, 0},
		{late, 2, 3 * one, 3 * one, 2 * one},
		{late, 3, 11 * one / 4, 11 * one / 4, 5 * one / 2},
		{soon, 1, 4 * one, 2 * one, 2 * one},
		{soon, 2, 3 * one, 5 * one / 2, 5 * one / 2},
		// A touch that is told twice is gone over twice.
		{[]api.Touch{late[0], late[1], late[0], late[1]}, 1, 3 * one, 3 * one, 2 * one},
	} {
		checkSpeeds(t, l, c.touches, Law{0, 0, c.rounds}, withSpeeds(l, vec(c.a, 0, 0), vec(c.b, 0, 0), vec(c.c, 0, 0)))
	}
}

// Promise 4.1: touches of bodies that are not there, or that are one, are nothing.
func TestTouchesOfNothing(t *testing.T) {
	x := vec(one, 0, 0)
	speeds := []api.Body{mover(1, one, vec(4*one, 0, 0)), mover(2, one, vec(0, 0, 0))}
	places := []api.Body{placed(1, one, vec(0, 0, 0)), placed(2, one, vec(one, 0, 0))}
	for _, c := range []api.Touch{
		touch(1, 3, x, one), touch(3, 1, x, one), touch(0, 2, x, one), touch(-1, 2, x, one), touch(3, 4, x, one), touch(most, low, x, one),
		touch(1, 1, x, one), touch(2, 2, x, one), touch(1, 1, vec(-one, 0, 0), one), touch(3, 3, x, one), {},
	} {
		checkSpeeds(t, speeds, []api.Touch{c}, Law{one, one, 20}, speeds)
		checkPlaces(t, places, []api.Touch{c}, places)
		// Those behind it hold all the same.
		checkSpeeds(t, speeds, []api.Touch{c, touch(1, 2, x, one)}, Law{0, 0, 1}, withSpeeds(speeds, vec(2*one, 0, 0), vec(2*one, 0, 0)))
		checkPlaces(t, places, []api.Touch{c, touch(1, 2, x, slack+20)}, withPlaces(places, vec(-2, 0, 0), vec(one+2, 0, 0)))
	}
}

// Bodies are known by their numbers, wherever they lie in the list, and the way leads from A to B, whichever is less.
func TestTouchesByNumber(t *testing.T) {
	l := []api.Body{mover(70, one, vec(0, one, 0)), mover(-4, one, vec(-4*one, 0, 0)), mover(0, one, vec(0, 0, 0))}
	checkSpeeds(t, l, []api.Touch{touch(0, -4, vec(one, 0, 0), 0)}, Law{0, 0, 1}, withSpeeds(l, vec(0, one, 0), vec(-2*one, 0, 0), vec(-2*one, 0, 0)))
	checkSpeeds(t, l, []api.Touch{touch(-4, 0, vec(-one, 0, 0), 0)}, Law{0, 0, 1}, withSpeeds(l, vec(0, one, 0), vec(-2*one, 0, 0), vec(-2*one, 0, 0)))
	checkSpeeds(t, l, []api.Touch{touch(-4, 0, vec(one, 0, 0), 0)}, Law{0, 0, 1}, l)
	checkSpeeds(t, l, []api.Touch{touch(70, 0, vec(0, one, 0), 0)}, Law{one, 0, 1}, withSpeeds(l, vec(0, 0, 0), vec(-4*one, 0, 0), vec(0, one, 0)))
}

// Promise 4.2: behind all each speed is clamped, that of those that nobody touches, or that have no mass, too.
func TestSpeedsClamped(t *testing.T) {
	fast := []api.Body{mover(1, one, vec(fastest+1, -fastest-1, fastest)), mover(2, 0, vec(low, most, -fastest)), mover(3, one, vec(top, 1, 2))}
	slow := withSpeeds(fast, vec(fastest, -fastest, fastest), vec(-fastest, fastest, -fastest), vec(fastest, 1, 2))
	for _, touches := range [][]api.Touch{nil, {}, {touch(1, 1, vec(one, 0, 0), 0)}, {touch(1, 9, vec(one, 0, 0), 0)}} {
		checkSpeeds(t, fast, touches, Law{0, 0, 1}, slow)
	}
	// Clamped behind all, not between: the wall stops what is faster than may be, and throws it back as fast.
	x := []api.Touch{touch(1, 2, vec(one, 0, 0), 0), touch(3, 1, vec(one, 0, 0), 0)}
	l := []api.Body{mover(1, one, vec(3*fastest, 0, 0)), mover(2, 0, vec(0, 0, 0)), mover(3, one, vec(0, 0, 0))}
	checkSpeeds(t, l, x[:1], Law{0, 0, 1}, withSpeeds(l, vec(0, 0, 0), vec(0, 0, 0), vec(0, 0, 0)))
	checkSpeeds(t, l, x[:1], Law{one, 0, 1}, withSpeeds(l, vec(-fastest, 0, 0), vec(0, 0, 0), vec(0, 0, 0)))
	checkSpeeds(t, l, []api.Touch{touch(1, 3, vec(one, 0, 0), 0)}, Law{0, 0, 1}, withSpeeds(l, vec(fastest, 0, 0), vec(0, 0, 0), vec(fastest, 0, 0)))
	checkSpeeds(t, l, x, Law{one, 0, 1}, withSpeeds(l, vec(0, 0, 0), vec(0, 0, 0), vec(-fastest, 0, 0)))
}

// Promise 4.1: by a law that is not Right nothing changes in Speeds, not even what is too fast.
func TestSpeedsWrongLaw(t *testing.T) {
	l := []api.Body{mover(1, one, vec(4*one, 0, 0)), mover(2, one, vec(0, 0, 0)), mover(3, 0, vec(fastest+1, low, most))}
	x := []api.Touch{touch(1, 2, vec(one, 0, 0), one)}
	for _, w := range []Law{{}, {0, 0, 0}, {0, 0, 21}, {0, 0, most}, {0, 0, low}, {-1, 0, 1}, {one + 1, 0, 1}, {0, -1, 1}, {0, one + 1, 1}, {low, most, 5}} {
		checkSpeeds(t, l, x, w, l)
		checkSpeeds(t, nil, x, w, nil)
	}
}

// Promise 4.3: how deep they have to be, and how far they are moved.
func TestPlacesDeep(t *testing.T) {
	for _, c := range []struct {
		massA, massB, deep int
		wantA, wantB       int
	}{
		{one, one, slack, 0, 0}, {one, one, slack + 1, 0, 0}, {one, one, slack + 9, 0, 0}, {one, one, slack + 10, -1, 1}, {one, one, slack + 19, -1, 1},
		{one, one, slack + 20, -2, 2}, {one, one, slack + 100*one, -10 * one, 10 * one},
		{one, one, 0, 0, 0}, {one, one, -1, 0, 0}, {one, one, -100 * one, 0, 0}, {one, one, low, 0, 0}, {one, one, 1, 0, 0},
		// One without mass stays: the other one goes all the way.
		{one, 0, slack + 4, 0, 0}, {one, 0, slack + 5, -1, 0}, {0, one, slack + 9, 0, 1}, {-3, one, slack + 10, 0, 2}, {one, 0, slack + 5*one, -one, 0},
		{0, 0, 9 * one, 0, 0}, {0, low, 9 * one, 0, 0}, {most, 1<<32 + 1, 9 * one, 0, 0},
		// The lighter one goes further.
		{2 * one, one, slack + 15*one, -one, 2 * one}, {one, 2 * one, slack + 15*one, -2 * one, one},
		{1 << 32, 0, slack + 5, -1, 0},
		// What falls between two numbers is lost, even if half of it is.
		{2, 0, slack + 5*one, -one, 0}, {2, 1 << 32, slack + 5*one, -one / 2, 0},
		// However deep, nobody leaves the world.
		{one, one, top, -farthest, farthest}, {one, one, most, -farthest, farthest}, {0, one, most, 0, farthest},
	} {
		l := []api.Body{placed(1, c.massA, vec(0, 3, -4)), placed(2, c.massB, vec(0, -5, 6))}
		checkPlaces(t, l, []api.Touch{touch(1, 2, vec(one, 0, 0), c.deep)}, withPlaces(l, vec(c.wantA, 3, -4), vec(c.wantB, -5, 6)))
	}
}

// Promise 4.3: by the way, from A to B, touch by touch.
func TestPlacesWay(t *testing.T) {
	l := []api.Body{placed(5, one, vec(one, 0, 0)), placed(2, one, vec(0, one, 0)), placed(9, 0, vec(0, 0, one))}
	deep := slack + 10*one
	checkPlaces(t, l, []api.Touch{touch(2, 5, vec(0, 0, one), deep)}, withPlaces(l, vec(one, 0, one), vec(0, one, -one), vec(0, 0, one)))
	checkPlaces(t, l, []api.Touch{touch(5, 2, vec(0, -one, 0), deep)}, withPlaces(l, vec(one, one, 0), vec(0, 0, 0), vec(0, 0, one)))
	checkPlaces(t, l, []api.Touch{touch(2, 5, vec(one/2, 0, -one/2), deep), touch(5, 9, vec(one, 0, 0), deep)},
		withPlaces(l, vec(one+one/2-2*one, 0, -one/2), vec(-one/2, one, one/2), vec(0, 0, one)))
	// Each touch is clamped by itself: what was cut off at the edge does not come again.
	edge := []api.Body{placed(1, one, vec(farthest-one, 0, 0)), placed(2, 0, vec(0, 0, 0))}
	out, back := touch(2, 1, vec(one, 0, 0), slack+10*one), touch(2, 1, vec(-one, 0, 0), slack+10*one)
	checkPlaces(t, edge, []api.Touch{out}, withPlaces(edge, vec(farthest, 0, 0), vec(0, 0, 0)))
	checkPlaces(t, edge, []api.Touch{out, back}, withPlaces(edge, vec(farthest-2*one, 0, 0), vec(0, 0, 0)))
	checkPlaces(t, edge, []api.Touch{back, out}, edge)
}

// Promise 4.3: who is beyond the edge is clamped by a touch that counts, and stays where it is by one that does not.
func TestPlacesBeyond(t *testing.T) {
	l := []api.Body{placed(1, one, vec(farthest+1, -farthest-1, low)), placed(2, 0, vec(most, 0, -farthest-9)), placed(3, one, vec(farthest+7, 0, 0))}
	x := vec(one, 0, 0)
	for _, c := range []api.Touch{touch(1, 2, x, slack), touch(1, 1, x, one), touch(2, 4, x, one), touch(1, 2, x, -one)} {
		checkPlaces(t, l, []api.Touch{c}, l)
	}
	checkPlaces(t, l, nil, l)
	in := withPlaces(l, vec(farthest, -farthest, -farthest), vec(farthest, 0, -farthest), vec(farthest+7, 0, 0))
	checkPlaces(t, l, []api.Touch{touch(1, 2, x, slack+1)}, in)
	none := slices.Clone(l)
	none[0].Mass = 0
	checkPlaces(t, none, []api.Touch{touch(1, 2, x, one)}, none)
}

// Promises 4.1, 4.2, 4.3, against the chapter told in numbers without bounds; P1: none panics.
func TestDrawn(t *testing.T) {
	d := die(4)
	for range 6000 {
		bodies, touches, w := d.bodies(), d.touches(), d.law()
		checkSpeeds(t, bodies, touches, w, modelSpeeds(bodies, touches, w))
		checkPlaces(t, bodies, touches, modelPlaces(bodies, touches))
	}
}

// Of the whole, 3: what has no mass is not moved, by whatever touches.
func TestNoMassIsNotMoved(t *testing.T) {
	d := die(33)
	for range 2000 {
		bodies, touches, w := d.bodies(), d.touches(), d.law()
		for i, b := range bodies {
			bodies[i].Speed, bodies[i].At = clamp(triOf(b.Speed), fastest).vec(), clamp(triOf(b.At), farthest).vec()
		}
		speeds, places := Speeds(bodies, touches, w), Places(bodies, touches)
		for i, b := range bodies {
			if b.Mass <= 0 && (speeds[i] != b || places[i] != b) {
				t.Errorf("%v without mass was moved: %v, %v", b, speeds[i], places[i])
			}
		}
	}
}

// Of bodies of which two have one number nothing is promised, but that the calls end.
func TestTwiceEnds(t *testing.T) {
	l := []api.Body{mover(1, one, vec(4*one, 0, 0)), mover(1, 0, vec(0, 0, 0)), mover(2, one, vec(-one, 0, 0)), mover(2, 1, vec(0, 0, 0))}
	x := []api.Touch{touch(1, 2, vec(one, 0, 0), one), touch(1, 1, vec(one, 0, 0), one), touch(2, 1, vec(one, 0, 0), one)}
	if got := Speeds(l, x, Law{one, one, 20}); len(got) != len(l) {
		t.Errorf("Speeds of %d bodies are %d", len(l), len(got))
	}
	if got := Places(l, x); len(got) != len(l) {
		t.Errorf("Places of %d bodies are %d", len(l), len(got))
	}
}

// Many bodies in a row, each touching the next one, take no longer than their touches.
func TestManyBodies(t *testing.T) {
	const many = 40_000
	var l []api.Body
	var x []api.Touch
	for i := range many {
		l = append(l, mover(i, one, vec(0, 0, 0)))
		x = append(x, touch(i, i+1, vec(one, 0, 0), slack+10))
	}
	l[0].Speed.X = one
	got := Speeds(l, x, Law{one, 0, 1})
	if got[many-1].Speed.X != one || got[0].Speed.X != 0 {
		t.Errorf("the last one's speed is %v, the first one's %v", got[many-1].Speed, got[0].Speed)
	}
	got = Places(l, x)
	if got[0].At.X != l[0].At.X-1 || got[many/2].At != l[many/2].At || got[many-1].At.X != l[many-1].At.X+1 {
		t.Errorf("the first one is at %v, one between at %v, the last one at %v", got[0].At, got[many/2].At, got[many-1].At)
	}
}

// P4: nothing that is handed in is written into, nor what stands behind its length; each answer is memory of its own; nothing hangs on calls before.
func TestMemory(t *testing.T) {
	bodies := []api.Body{mover(1, one, vec(4*one, 0, 0)), mover(2, one, vec(0, fastest+5, 0)), mover(3, one, vec(7, 7, 7))}
	touches := []api.Touch{touch(1, 2, vec(one, 0, 0), one), touch(2, 3, vec(one, 0, 0), one)}
	for _, w := range []Law{{one, one, 3}, {}} {
		for _, ask := range []func() []api.Body{
			func() []api.Body { return Speeds(bodies[:2], touches[:1], w) },
			func() []api.Body { return Places(bodies[:2], touches[:1]) },
			func() []api.Body { return Places(bodies[:2], nil) },
		} {
			hadBodies, hadTouches := slices.Clone(bodies), slices.Clone(touches)
			first := ask()
			second, kept := ask(), slices.Clone(first)
			_ = append(first[:0], api.Body{Id: -1}, api.Body{Id: -2}, api.Body{Id: -3})
			if !slices.Equal(bodies, hadBodies) || !slices.Equal(touches, hadTouches) {
				t.Errorf("what was handed in was written into: %v, %v", bodies, touches)
			}
			if !slices.Equal(second, kept) || !slices.Equal(ask(), kept) {
				t.Errorf("an answer shares memory with another one, or with what is kept: %v, want %v", second, kept)
			}
		}
	}
	if len(Speeds(nil, touches, Law{0, 0, 1})) != 0 || len(Speeds([]api.Body{}, nil, Law{})) != 0 || len(Places(nil, touches)) != 0 {
		t.Error("of no bodies there are some")
	}
}
