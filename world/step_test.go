package world

import (
	"slices"
	"testing"

	"gyre/api"
	"gyre/solve"
)

// Example 5: a body of Mass 1 that falls by -5.
func TestExample(t *testing.T) {
	w := made(t, Config{Fall: vec(0, -5, 0), Law: plainLaw()})
	b := small(vec(0, 0, 0))
	b.Mass = 1
	spawns(t, w, b)
	w.Step()
	is(t, w, 1, vec(0, -5, 0), vec(0, -5, 0))
	w.Step()
	is(t, w, 1, vec(0, -15, 0), vec(0, -10, 0))
	if w.Steps() != 2 {
		t.Errorf("Steps() = %d", w.Steps())
	}
}

// Promise 5.2: Speed, Push and Fall are put together, then clamped once; what has no mass keeps its speed, and moves by it.
func TestDrive(t *testing.T) {
	for _, c := range []struct {
		mass, speed, push, fall int
		want                    int
	}{
		{one, 1, 10, 100, 111},
		{1, 1, 10, 100, 111},
		{heaviest, 1, 10, 100, 111},
		{0, 1, 10, 100, 1},
		{0, 0, fastest, fastest, 0},
		{one, 0, -10, 3, -7},
		{one, fastest, 1, 0, fastest},
		{one, fastest, 0, 1, fastest},
		{one, -fastest, -fastest, -fastest, -fastest},
		// Clamped in between, these would be another one.
		{one, fastest, fastest, -fastest, fastest},
		{one, fastest, 5, -7, fastest - 2},
		{one, -fastest, -5, 7, -fastest + 2},
		{one, fastest, -fastest, -fastest, -fastest},
	} {
		ones := []api.Vec{vec(1, 0, 0), vec(0, 1, 0), vec(0, 0, 1)}
		for _, u := range ones {
			times := func(n int) api.Vec { return vec(u.X*n, u.Y*n, u.Z*n) }
			w := made(t, Config{Fall: times(c.fall), Law: plainLaw()})
			b := small(vec(0, 0, 0))
			b.Mass, b.Speed, b.Push = c.mass, times(c.speed), times(c.push)
			spawns(t, w, b)
			w.Step()
			is(t, w, 1, times(c.want), times(c.want))
			if b, _ := w.Body(1); b.Push != times(c.push) {
				t.Errorf("%v: Push became %v", c, b.Push)
			}
		}
	}
}

// Promise 5.2: nobody leaves the world: who would is stopped at its end, in that direction alone; who just comes there is not.
func TestBounds(t *testing.T) {
	for _, c := range []struct {
		at, speed         api.Vec
		wantAt, wantSpeed api.Vec
	}{
		{vec(farthest-10, 0, 0), vec(10, 3, -4), vec(farthest, 3, -4), vec(10, 3, -4)},
		{vec(farthest-10, 0, 0), vec(11, 3, -4), vec(farthest, 3, -4), vec(0, 3, -4)},
		{vec(farthest, 0, 0), vec(1, 3, -4), vec(farthest, 3, -4), vec(0, 3, -4)},
		{vec(farthest, 0, 0), vec(0, 3, -4), vec(farthest, 3, -4), vec(0, 3, -4)},
		{vec(farthest, 0, 0), vec(-1, 3, -4), vec(farthest-1, 3, -4), vec(-1, 3, -4)},
		{vec(-farthest+10, 0, 0), vec(-10, 3, -4), vec(-farthest, 3, -4), vec(-10, 3, -4)},
		{vec(-farthest+10, 0, 0), vec(-11, 3, -4), vec(-farthest, 3, -4), vec(0, 3, -4)},
		{vec(-farthest, 0, 0), vec(-fastest, 3, -4), vec(-farthest, 3, -4), vec(0, 3, -4)},
		{vec(farthest, -farthest, 0), vec(5, -5, 5), vec(farthest, -farthest, 5), vec(0, 0, 5)},
		{vec(farthest, -farthest, 0), vec(5, 5, 5), vec(farthest, -farthest+5, 5), vec(0, 5, 5)},
		{vec(farthest, farthest, farthest), vec(fastest, fastest, fastest), vec(farthest, farthest, farthest), vec(0, 0, 0)},
		{vec(-farthest, -farthest, -farthest), vec(fastest, fastest, fastest), vec(-farthest+fastest, -farthest+fastest, -farthest+fastest), vec(fastest, fastest, fastest)},
	} {
		for i := range 3 {
			for _, mass := range []int{0, one} {
				w := still(t)
				b := small(turns(c.at)[i])
				b.Speed, b.Mass = turns(c.speed)[i], mass
				spawns(t, w, b)
				w.Step()
				is(t, w, 1, turns(c.wantAt)[i], turns(c.wantSpeed)[i])
			}
		}
	}
}

// Promise 5.2: who falls onto the world's end lies there: it comes to have no speed, but its Push and Fall stay.
func TestEndOfTheFall(t *testing.T) {
	w := made(t, Config{Fall: vec(0, -one, 0), Law: plainLaw()})
	b := small(vec(0, -farthest+2*one, 0))
	spawns(t, w, b)
	for i, y := range []int{-farthest + one, -farthest, -farthest, -farthest} {
		w.Step()
		speed := 0
		if i == 0 {
			speed = -one
		}
		is(t, w, 1, vec(0, y, 0), vec(0, speed, 0))
	}
	asks(t, "Push", w.Push(1, vec(0, 3*one, 0)), api.OK)
	w.Step()
	is(t, w, 1, vec(0, -farthest+2*one, 0), vec(0, 2*one, 0))
}

// Promise 5.2: who comes to touch in a step is not hit in it, but in the next one, ahead of moving; then the two come apart.
func TestTouchesAheadOfMoving(t *testing.T) {
	w := still(t)
	mover := api.Body{Shape: ball(one), Speed: vec(5*one/2, 0, 0), Mass: one}
	spawns(t, w, mover, api.Body{Shape: block(one, one, one), At: vec(4*one, 0, 0)})
	w.Step()
	is(t, w, 1, vec(5*one/2, 0, 0), vec(5*one/2, 0, 0))
	if got, want := w.Touches(), []api.Touch{{A: 1, B: 2, Way: vec(one, 0, 0), Deep: one / 2}}; !slices.Equal(got, want) {
		t.Fatalf("Touches() = %v, want %v", got, want)
	}
	w.Step()
	// A fifth of (32768 - 655).
	is(t, w, 1, vec(5*one/2-6422, 0, 0), vec(0, 0, 0))
	is(t, w, 2, vec(4*one, 0, 0), vec(0, 0, 0))
	w.Step()
	// A fifth of (32768 - 6422 - 655).
	is(t, w, 1, vec(5*one/2-6422-5138, 0, 0), vec(0, 0, 0))
}

// Promise 5.2: the push and the fall of a step are there when bodies hit each other: what lies on something does not sink.
func TestDriveAheadOfTouches(t *testing.T) {
	w := made(t, Config{Fall: vec(0, -one/8, 0), Law: plainLaw()})
	spawns(t, w, api.Body{Shape: block(one, one, one)}, api.Body{Shape: block(one, one, one), At: vec(0, 2*one-600, 0), Push: vec(0, -one/8, 0), Mass: one})
	for range 5 {
		w.Step()
		is(t, w, 2, vec(0, 2*one-600, 0), vec(0, 0, 0))
	}
}

// Promise 5.2: bodies come apart by the touches that were, not by those that are behind moving.
func TestSameTouches(t *testing.T) {
	w := still(t)
	spawns(t, w,
		api.Body{Shape: ball(one), At: vec(5*one/2, 0, 0), Speed: vec(-one/4, 0, 0), Mass: one},
		api.Body{Shape: block(one, one, one), At: vec(4*one, 0, 0)})
	w.Step()
	is(t, w, 1, vec(9*one/4-6422, 0, 0), vec(-one/4, 0, 0))
	// Those that touched and are far from each other now come apart, too.
	w = still(t)
	spawns(t, w,
		api.Body{Shape: ball(one), Speed: vec(0, 50*one, 0)},
		api.Body{Shape: ball(one), At: vec(one, 0, 0), Mass: one})
	w.Step()
	is(t, w, 1, vec(0, 50*one, 0), vec(0, 50*one, 0))
	is(t, w, 2, vec(one+12976, 0, 0), vec(0, 0, 0))
}

// Promise 5.2: bodies come apart behind moving, and within the world; that stops nobody.
func TestPlacesBehindMoving(t *testing.T) {
	w := still(t)
	spawns(t, w,
		api.Body{Shape: ball(one), At: vec(farthest-one/2, 0, 0), Speed: vec(-one, 0, 0)},
		api.Body{Shape: ball(one), At: vec(farthest, 0, 0), Speed: vec(-one/2, 0, 0), Mass: one})
	w.Step()
	is(t, w, 1, vec(farthest-3*one/2, 0, 0), vec(-one, 0, 0))
	// A fifth of (98304 - 655): told ahead of moving, it would be lost at the world's end.
	is(t, w, 2, vec(farthest-one/2+19529, 0, 0), vec(-one/2, 0, 0))
	w = still(t)
	spawns(t, w,
		api.Body{Shape: ball(one), At: vec(farthest-one, 0, 0)},
		api.Body{Shape: ball(one), At: vec(farthest-1000, 0, 0), Speed: vec(500, 7, 0), Mass: one})
	w.Step()
	is(t, w, 2, vec(farthest, 7, 0), vec(500, 7, 0))
}

// Promise 5.2: the law is the world's: how much bodies bounce and rub, and how often that is gone over.
func TestLaw(t *testing.T) {
	for _, c := range []struct {
		law  solve.Law
		want [3]int // each one's speed
	}{
		{solve.Law{Rounds: 1}, [3]int{4 * one, 2 * one, 2 * one}},
		{solve.Law{Rounds: 2}, [3]int{3 * one, 5 * one / 2, 5 * one / 2}},
		{solve.Law{Bounce: one, Rounds: 1}, [3]int{0, 0, 8 * one}},
	} {
		w := made(t, Config{Law: c.law})
		for i := range 3 {
			spawns(t, w, api.Body{Shape: ball(one), At: vec(i*3*one/2, 0, 0), Mass: one})
		}
		asks(t, "Push", w.Push(1, vec(8*one, 0, 0)), api.OK)
		w.Step()
		for i, b := range w.Bodies() {
			if b.Speed != vec(c.want[i], 0, 0) {
				t.Errorf("%v: body %d has speed %v, want %d", c.law, b.Id, b.Speed, c.want[i])
			}
		}
	}
	w := made(t, Config{Law: solve.Law{Rub: one, Rounds: 1}})
	spawns(t, w,
		api.Body{Shape: block(one, one, one), Speed: vec(3*one, 4*one, 0), Mass: one},
		api.Body{Shape: block(one, 9*one, one), At: vec(2*one-600, 0, 0)})
	w.Step()
	is(t, w, 1, vec(0, one, 0), vec(0, one, 0))
}

// Promise 5.2: Digest: of one body and of two, by numbers worked out elsewhere; not of the steps that went by.
func TestDigest(t *testing.T) {
	w := still(t)
	spawns(t, w, api.Body{Owner: 8, Shape: block(3, 4, 5), At: vec(6, 7, 8), Speed: vec(0, 0, 0), Push: vec(12, -13, 14), Teams: -16})
	if got, want := w.Digest(), 2656490345679390128; got != want {
		t.Errorf("Digest() of one = %d, want %d", got, want)
	}
	w.Step()
	if got, want := w.Digest(), 2656490345679390128; got != want {
		t.Errorf("Digest() behind a step = %d, want %d", got, want)
	}
	spawns(t, w, api.Body{Shape: ball(one), At: vec(-farthest, 5, -6), Speed: vec(-7, 8, -9), Mass: 2 * one, Teams: 3})
	if got, want := w.Digest(), 5449120042650362158; got != want {
		t.Errorf("Digest() of two = %d, want %d", got, want)
	}
	asks(t, "Remove", w.Remove(2), api.OK)
	if got, want := w.Digest(), 2656490345679390128; got != want {
		t.Errorf("Digest() of one again = %d, want %d", got, want)
	}
}

// Promise 5.2: each number of a body counts in a digest.
func TestDigestOfEachNumber(t *testing.T) {
	seen := map[int]string{}
	tell := func(what string, change func(b *api.Body)) {
		w := still(t)
		b := api.Body{Owner: 1, Shape: block(2, 3, 4), Mass: 5}
		change(&b)
		spawns(t, w, b)
		d := w.Digest()
		if other, there := seen[d]; there || d < 0 {
			t.Errorf("%s has the digest %d of %s", what, d, other)
		}
		seen[d] = what
	}
	tell("none", func(b *api.Body) {})
	tell("owner", func(b *api.Body) { b.Owner++ })
	tell("kind", func(b *api.Body) { b.Shape = ball(2) })
	tell("mass", func(b *api.Body) { b.Mass++ })
	tell("teams", func(b *api.Body) { b.Teams++ })
	tell("low teams", func(b *api.Body) { b.Teams = low })
	for i, u := range turns(vec(1, 0, 0)) {
		part := string(rune('X' + i))
		tell("size "+part, func(b *api.Body) { b.Shape = block(2+u.X, 3+u.Y, 4+u.Z) })
		tell("at "+part, func(b *api.Body) { b.At = u })
		tell("speed "+part, func(b *api.Body) { b.Speed = u })
		tell("push "+part, func(b *api.Body) { b.Push = u })
		tell("push back "+part, func(b *api.Body) { b.Push = vec(-u.X, -u.Y, -u.Z) })
	}
	w := still(t)
	spawns(t, w, api.Body{Owner: 1, Shape: block(2, 3, 4), Mass: 5}, api.Body{Owner: 1, Shape: block(2, 3, 4), Mass: 5})
	asks(t, "Remove", w.Remove(1), api.OK)
	if other, there := seen[w.Digest()]; there {
		t.Errorf("another Id has the digest of %s", other)
	}
}

// Promise 5.2: as many bodies as may be, in one heap or across the world at any speed: nobody leaves the world, and all is as if each were held against each.
func TestCrowd(t *testing.T) {
	for seed := range 6 {
		d := die(seed)
		c := Config{Fall: vec(0, -one/16, 0), Law: solve.Law{Bounce: d.upTo(one + 1), Rub: d.upTo(one + 1), Rounds: 1 + d.upTo(20)}, Quota: crowd}
		w, m := made(t, c), &model{config: c}
		for range crowd {
			b := d.body()
			if seed%2 == 1 {
				b.At, b.Speed, b.Shape = d.around(farthest), d.around(fastest), block(greatest-d.upTo(9), greatest, greatest)
			}
			spawns(t, w, b)
			m.spawn(b)
		}
		for range 40 {
			w.Step()
			m.step()
			same(t, w, m)
			for _, b := range w.Bodies() {
				if far(b.At, farthest) || far(b.Speed, fastest) {
					t.Fatalf("%v is beyond the world", b)
				}
			}
		}
	}
}

// circles are the bodies of some touches, each with all that it shares touches with, whoever is between: of each body a number that all of its circle have.
func circles(bodies []api.Body, touches []api.Touch) map[int]int {
	circle := map[int]int{}
	for _, b := range bodies {
		circle[b.Id] = b.Id
	}
	for _, c := range touches {
		from, to := circle[c.B], circle[c.A]
		for id, n := range circle {
			if n == from {
				circle[id] = to
			}
		}
	}
	return circle
}

// Promise 5.3: with the bodies of a circle taken away from the beginning on, all others go their way as before, whether the numbers are those that they had or not.
func TestWhoDoesNotTouchDoesNotMatter(t *testing.T) {
	d := die(53)
	alone, inCompany := 0, 0
	for range 60 {
		c := Config{Fall: d.around(one / 64), Law: solve.Law{Bounce: d.upTo(one + 1), Rub: d.upTo(one + 1), Rounds: 1 + d.upTo(8)}, Quota: crowd}
		var bodies []api.Body
		for range 12 {
			b := d.body()
			b.At = d.around(12 * one)
			bodies = append(bodies, b)
		}
		w := made(t, c)
		spawns(t, w, bodies...)
		var touches []api.Touch
		for range 25 {
			touches = append(touches, w.Touches()...)
			w.Step()
		}
		end, circle := w.Bodies(), circles(w.Bodies(), touches)
		for gone := range circle {
			if circle[gone] != gone {
				continue
			}
			var want []api.Body
			for _, b := range end {
				if circle[b.Id] != gone {
					want = append(want, b)
				}
			}
			switch len(want) {
			case len(end) - 1:
				alone++
			case 0:
			default:
				inCompany++
			}
			goesOn(t, c, bodies, func(id int) bool { return circle[id] != gone }, want)
		}
	}
	if alone < 100 || inCompany < 30 {
		t.Errorf("%d bodies alone, %d circles: too few to tell", alone, inCompany)
	}
}

// goesOn fails unless those that stay come to be as wanted behind 25 steps.
func goesOn(t *testing.T, c Config, bodies []api.Body, stays func(id int) bool, want []api.Body) {
	t.Helper()
	removed, fewer := made(t, c), made(t, c)
	for i, b := range bodies {
		spawns(t, removed, b)
		if stays(i + 1) {
			spawns(t, fewer, b)
		} else {
			asks(t, "Remove", removed.Remove(i+1), api.OK)
		}
	}
	for range 25 {
		removed.Step()
		fewer.Step()
	}
	if got := removed.Bodies(); !slices.Equal(got, want) {
		t.Fatalf("without them:\n%v, want\n%v", got, want)
	}
	renumbered := slices.Clone(want)
	for i := range renumbered {
		renumbered[i].Id = i + 1
	}
	if got := fewer.Bodies(); !slices.Equal(got, renumbered) {
		t.Fatalf("without them, by other numbers:\n%v, want\n%v", got, renumbered)
	}
}
