package world

import (
	"fmt"
	"slices"
	"testing"

	"gyre/api"
	"gyre/geom"
	"gyre/solve"
)

// Promise 5.1: which worlds may be, at the edges of Fall, Quota and the law; ErrRange comes ahead of ErrArg.
func TestNew(t *testing.T) {
	right, bad := plainLaw(), solve.Law{}
	type row struct {
		c    Config
		want api.Errno
	}
	rows := []row{
		{Config{Law: right}, api.OK},
		{Config{Law: right, Quota: 1}, api.OK},
		{Config{Law: right, Quota: crowd}, api.OK},
		{Config{Law: solve.Law{Bounce: one, Rub: one, Rounds: 20}}, api.OK},
		{Config{Law: right, Quota: -1}, api.ErrRange},
		{Config{Law: right, Quota: crowd + 1}, api.ErrRange},
		{Config{Law: right, Quota: most}, api.ErrRange},
		{Config{Law: right, Quota: low}, api.ErrRange},
		{Config{}, api.ErrArg},
		{Config{Law: solve.Law{Bounce: one + 1, Rounds: 1}}, api.ErrArg},
		{Config{Law: solve.Law{Rub: -1, Rounds: 1}}, api.ErrArg},
		{Config{Law: solve.Law{Rounds: 21}}, api.ErrArg},
		{Config{Law: bad, Quota: -1}, api.ErrRange},
		{Config{Law: bad, Quota: crowd + 1}, api.ErrRange},
	}
	for _, n := range []int{fastest, -fastest, 1, -1} {
		for _, v := range turns(vec(n, 0, -n)) {
			rows = append(rows, row{Config{Fall: v, Law: right}, api.OK}, row{Config{Fall: v, Law: bad}, api.ErrArg})
		}
	}
	for _, n := range []int{fastest + 1, -fastest - 1, top, most, low} {
		for _, v := range turns(vec(n, 0, 0)) {
			rows = append(rows, row{Config{Fall: v, Law: right}, api.ErrRange}, row{Config{Fall: v, Law: bad}, api.ErrRange})
		}
	}
	for _, c := range rows {
		w, err := New(c.c)
		asks(t, fmt.Sprint("New ", c.c), err, c.want)
		if (w != nil) != (c.want == api.OK) {
			t.Errorf("New(%v) = %v beside %v", c.c, w, err)
		}
	}
}

// Promises 5.1, 5.2: a world without bodies: nothing is there, and steps go by.
func TestEmptyWorld(t *testing.T) {
	c := Config{Fall: vec(0, -5, 0), Law: plainLaw()}
	w, m := made(t, c), &model{config: c}
	for range 3 {
		same(t, w, m)
		if w.Digest() != emptiness {
			t.Errorf("Digest() = %d, want %d", w.Digest(), emptiness)
		}
		for _, id := range []int{0, 1, -1, most, low} {
			asks(t, "Remove", w.Remove(id), api.ErrMissing)
			asks(t, "Push", w.Push(id, vec(0, 0, 0)), api.ErrMissing)
			if b, ok := w.Body(id); ok || b != (api.Body{}) {
				t.Errorf("Body(%d) = %v, %v", id, b, ok)
			}
		}
		w.Step()
		m.step()
	}
	same(t, w, m)
}

// Promise 5.1: bodies at the edges of what may be are taken as they are, but for their numbers.
func TestSpawn(t *testing.T) {
	edge := small(vec(0, 0, 0))
	with := func(change func(b *api.Body)) api.Body {
		b := edge
		change(&b)
		return b
	}
	bodies := []api.Body{
		edge,
		with(func(b *api.Body) { b.Id = 99 }),
		with(func(b *api.Body) { b.Id = -3 }),
		with(func(b *api.Body) { b.Owner = owners }),
		with(func(b *api.Body) { b.Mass = 0 }),
		with(func(b *api.Body) { b.Mass = 1 }),
		with(func(b *api.Body) { b.Mass = heaviest }),
		with(func(b *api.Body) { b.Teams = low }),
		with(func(b *api.Body) { b.Teams = most }),
		with(func(b *api.Body) { b.Shape = ball(1) }),
		with(func(b *api.Body) { b.Shape = ball(greatest) }),
		with(func(b *api.Body) { b.Shape = block(1, 1, 1) }),
		with(func(b *api.Body) { b.Shape = block(greatest, greatest, greatest) }),
		with(func(b *api.Body) { b.At = vec(farthest, -farthest, farthest) }),
		with(func(b *api.Body) { b.Speed = vec(-fastest, fastest, -fastest) }),
		with(func(b *api.Body) { b.Push = vec(fastest, -fastest, fastest) }),
		{Id: 7, Owner: 8, Shape: block(3, 4, 5), At: vec(6, 7, 8), Speed: vec(9, 10, 11), Push: vec(12, 13, 14), Mass: 15, Teams: 16},
	}
	w := still(t)
	for i, b := range bodies {
		if got := spawns(t, w, b); got[0] != i+1 {
			t.Fatalf("body %d got number %d", i+1, got[0])
		}
		b.Id = i + 1
		bodies[i] = b
		if got, ok := w.Body(i + 1); !ok || got != b {
			t.Errorf("Body(%d) = %v, %v, want %v", i+1, got, ok, b)
		}
		if got := w.Bodies(); !slices.Equal(got, bodies[:i+1]) {
			t.Errorf("Bodies() = %v, want %v", got, bodies[:i+1])
		}
	}
}

// Promise 5.1: wrong bodies, one thing wrong and more than one: the error told first, no number, and nothing is changed.
func TestSpawnOfWrongBodies(t *testing.T) {
	good := small(vec(0, 0, 0))
	type row struct {
		b    api.Body
		want api.Errno
	}
	var rows []row
	add := func(want api.Errno, change func(b *api.Body)) {
		b := good
		change(&b)
		rows = append(rows, row{b, want})
	}
	for _, s := range []api.Shape{{}, {Kind: 3, Size: vec(1, 1, 1)}, {Kind: -1, Size: vec(1, 0, 0)}, ball(0), ball(-1), ball(greatest + 1), block(1, 1, 0), block(0, 1, 1),
		block(1, greatest+1, 1), {Kind: api.Ball, Size: vec(1, 1, 1)}, {Kind: api.Ball, Size: vec(1, 0, 1)}, {Kind: most, Size: vec(low, most, low)}} {
		add(api.ErrArg, func(b *api.Body) { b.Shape = s })
		add(api.ErrArg, func(b *api.Body) { b.Shape, b.Owner = s, -1 })
		add(api.ErrArg, func(b *api.Body) { b.Shape, b.At.X = s, farthest+1 })
	}
	for _, n := range []int{-1, owners + 1, most, low} {
		add(api.ErrRange, func(b *api.Body) { b.Owner = n })
	}
	for _, n := range []int{-1, heaviest + 1, most, low} {
		add(api.ErrRange, func(b *api.Body) { b.Mass = n })
	}
	for _, n := range []int{farthest + 1, -farthest - 1, top, -top, most, low} {
		for _, v := range turns(vec(n, 0, 0)) {
			add(api.ErrRange, func(b *api.Body) { b.At = v })
		}
	}
	for _, n := range []int{fastest + 1, -fastest - 1, top, -top, most, low} {
		for _, v := range turns(vec(n, 0, 0)) {
			add(api.ErrRange, func(b *api.Body) { b.Speed = v })
			add(api.ErrRange, func(b *api.Body) { b.Push = v })
		}
	}
	w := still(t)
	refuse := func(full bool) {
		for _, c := range rows {
			refuses(t, w, c.b, c.want)
		}
		if full {
			refuses(t, w, good, api.ErrLimit)
		}
	}
	refuse(false)
	spawns(t, w, good, good)
	refuse(false)
	// A body that is refused takes no number.
	if got := spawns(t, w, good); got[0] != 3 {
		t.Errorf("the third body got number %d", got[0])
	}
	for range crowd - 3 {
		spawns(t, w, good)
	}
	refuse(true)
}

// Promise 5.1: at most MaxBodies at a time, nobody's and owners' together; numbers go on behind those that are gone.
func TestMaxBodies(t *testing.T) {
	w := still(t)
	for i := range crowd {
		b := small(vec(i*one, 0, 0))
		b.Owner = i % (owners + 1)
		spawns(t, w, b)
	}
	for owner := range owners + 1 {
		b := small(vec(0, 0, 0))
		b.Owner = owner
		refuses(t, w, b, api.ErrLimit)
	}
	asks(t, "Remove", w.Remove(crowd), api.OK)
	asks(t, "Remove", w.Remove(1), api.OK)
	if got := spawns(t, w, small(vec(0, 0, 0)), small(vec(0, 0, 0))); !slices.Equal(got, []int{crowd + 1, crowd + 2}) {
		t.Errorf("numbers %v", got)
	}
	refuses(t, w, small(vec(0, 0, 0)), api.ErrLimit)
	for _, b := range w.Bodies() {
		asks(t, "Remove", w.Remove(b.Id), api.OK)
	}
	if got := spawns(t, w, small(vec(0, 0, 0))); got[0] != crowd+3 {
		t.Errorf("the first body in a world that was emptied got number %d", got[0])
	}
}

// Promise 5.1: an owner has at most Quota bodies, each one for itself; nobody has as many as there is room for.
func TestQuota(t *testing.T) {
	for _, quota := range []int{0, 1, 2, 6} {
		w := made(t, Config{Law: plainLaw(), Quota: quota})
		of := func(owner int) api.Body {
			b := small(vec(0, 0, 0))
			b.Owner = owner
			return b
		}
		for range 4 {
			spawns(t, w, of(0))
		}
		for owner := 1; owner <= owners; owner++ {
			var ids []int
			for range quota {
				ids = append(ids, spawns(t, w, of(owner))...)
				spawns(t, w, of(0))
				asks(t, "Remove", w.Remove(ids[len(ids)-1]+1), api.OK)
			}
			refuses(t, w, of(owner), api.ErrLimit)
			if quota > 0 {
				asks(t, "Remove", w.Remove(ids[0]), api.OK)
				spawns(t, w, of(owner))
				refuses(t, w, of(owner), api.ErrLimit)
			}
		}
		wrong := of(1)
		wrong.Mass = -1
		refuses(t, w, wrong, api.ErrRange)
		if quota == 0 {
			for len(w.Bodies()) < crowd {
				spawns(t, w, of(0))
			}
			refuses(t, w, of(0), api.ErrLimit)
		}
	}
}

// Promise 5.1: Remove: the body is gone from all answers, once; the others stay.
func TestRemove(t *testing.T) {
	c := Config{Law: plainLaw()}
	w, m := made(t, c), &model{config: c}
	for i := range 5 {
		b := small(vec(i*one/4, 0, 0))
		spawns(t, w, b)
		m.spawn(b)
	}
	for _, id := range []int{3, 3, 0, 6, -1, most, low, 5, 1, 1, 4, 2, 2} {
		want := m.remove(id)
		if want == api.OK {
			asks(t, "Remove", w.Remove(id), want)
		} else {
			unchanged(t, w, func() { asks(t, "Remove", w.Remove(id), api.ErrMissing) })
		}
		same(t, w, m)
	}
	if w.Digest() != emptiness {
		t.Errorf("Digest() = %d of a world that was emptied", w.Digest())
	}
}

// Promise 5.1: Push: the last one counts, step by step; ErrMissing comes ahead of ErrRange; with an error nothing is changed.
func TestPush(t *testing.T) {
	w := still(t)
	spawns(t, w, small(vec(0, 0, 0)), small(vec(9*one, 0, 0)))
	for _, n := range []int{fastest + 1, -fastest - 1, top, most, low} {
		for _, v := range turns(vec(n, 0, 0)) {
			unchanged(t, w, func() { asks(t, "Push", w.Push(1, v), api.ErrRange) })
			unchanged(t, w, func() { asks(t, "Push", w.Push(3, v), api.ErrMissing) })
		}
	}
	for _, id := range []int{0, 3, -1, most, low} {
		unchanged(t, w, func() { asks(t, "Push", w.Push(id, vec(1, 2, 3)), api.ErrMissing) })
	}
	asks(t, "Push", w.Push(1, vec(1, 2, 3)), api.OK)
	is(t, w, 1, vec(0, 0, 0), vec(0, 0, 0))
	if b, _ := w.Body(1); b.Push != vec(1, 2, 3) {
		t.Errorf("Push is %v", b.Push)
	}
	if b, _ := w.Body(2); b.Push != vec(0, 0, 0) {
		t.Errorf("the other one's Push is %v", b.Push)
	}
	w.Step()
	is(t, w, 1, vec(1, 2, 3), vec(1, 2, 3))
	w.Step()
	is(t, w, 1, vec(3, 6, 9), vec(2, 4, 6))
	asks(t, "Push", w.Push(1, vec(-2, -4, -6)), api.OK)
	w.Step()
	is(t, w, 1, vec(3, 6, 9), vec(0, 0, 0))
	for _, v := range turns(vec(fastest, -fastest, 0)) {
		asks(t, "Push", w.Push(1, v), api.OK)
	}
	asks(t, "Push", w.Push(1, vec(0, 0, 0)), api.OK)
	w.Step()
	is(t, w, 1, vec(3, 6, 9), vec(0, 0, 0))
	is(t, w, 2, vec(9*one, 0, 0), vec(0, 0, 0))
}

// Promise 5.1: Near: boxes that meet in a side, an edge or a corner alone, too, where the bodies are now, rising.
func TestNear(t *testing.T) {
	w := still(t)
	spawns(t, w,
		api.Body{Shape: ball(one), At: vec(10*one, 0, 0), Speed: vec(-5*one, 0, 0)},
		api.Body{Shape: block(one, 2*one, 3*one)},
		api.Body{Shape: block(1, 1, 1), At: vec(farthest, farthest, farthest)})
	for _, c := range []struct {
		b    geom.Box
		want []int
	}{
		{all(), []int{1, 2, 3}},
		{box(0, 0, 0, 0, 0, 0), []int{2}},
		{box(one, 0, 0, 9*one, 0, 0), []int{1, 2}},
		{box(one+1, 0, 0, 9*one, 0, 0), []int{1}},
		{box(one, 0, 0, 9*one-1, 0, 0), []int{2}},
		{box(one+1, 0, 0, 9*one-1, 0, 0), nil},
		{box(one, 2*one, 3*one, 2*one, 3*one, 4*one), []int{2}},
		{box(one, 2*one, 3*one+1, 2*one, 3*one, 4*one), nil},
		{box(one, 2*one+1, 3*one, 2*one, 3*one, 4*one), nil},
		// A ball's box has corners that it does not reach.
		{box(11*one, one, one, 12*one, 2*one, 2*one), []int{1}},
		{box(11*one, -2*one, one, 12*one, -one, 2*one), []int{1}},
		{box(11*one, one, one+1, 12*one, 2*one, 2*one), nil},
		{box(farthest+1, farthest+1, farthest+1, most, most, most), []int{3}},
		{box(farthest+2, farthest+1, farthest+1, most, most, most), nil},
		{box(low, low, low, most, most, most), []int{1, 2, 3}},
		// One that is inside out is asked by the same words.
		{box(one/2, one/2, one/2, -one/2, -one/2, -one/2), []int{2}},
		{box(most, most, most, low, low, low), nil},
	} {
		if got := w.Near(c.b); !slices.Equal(got, c.want) {
			t.Errorf("Near(%v) = %v, want %v", c.b, got, c.want)
		}
	}
	w.Step()
	if got := w.Near(box(4*one, 0, 0, 5*one, 0, 0)); !slices.Equal(got, []int{1}) {
		t.Errorf("behind a step: Near = %v", got)
	}
	if got := w.Near(box(9*one, 0, 0, 10*one, 0, 0)); got != nil {
		t.Errorf("behind a step: Near where it was = %v", got)
	}
}

// Promise 5.1: Touches: the lesser number first, which way and how deep, rising by both numbers.
func TestTouches(t *testing.T) {
	x, y := vec(one, 0, 0), vec(0, one, 0)
	unit := func(at api.Vec) api.Body { return api.Body{Shape: ball(one), At: at} }
	for _, c := range []struct {
		what   string
		bodies []api.Body
		want   []api.Touch
	}{
		{"none", nil, nil},
		{"one", []api.Body{unit(vec(0, 0, 0))}, nil},
		{"the second one further on", []api.Body{unit(vec(0, 0, 0)), unit(vec(one, 0, 0))}, []api.Touch{{A: 1, B: 2, Way: x, Deep: one}}},
		{"the first one further on", []api.Body{unit(vec(one, 0, 0)), unit(vec(0, 0, 0))}, []api.Touch{{A: 1, B: 2, Way: vec(-one, 0, 0), Deep: one}}},
		{"in a point alone", []api.Body{unit(vec(0, 0, 0)), unit(vec(2*one, 0, 0))}, nil},
		// How far they are from each other is rounded down, twice.
		{"a little deeper", []api.Body{unit(vec(0, 0, 0)), unit(vec(2*one-2, 0, 0))}, []api.Touch{{A: 1, B: 2, Way: x, Deep: 3}}},
		{"their boxes alone", []api.Body{unit(vec(0, 0, 0)), unit(vec(3*one/2, 3*one/2, 0))}, nil},
		{"blocks side by side", []api.Body{{Shape: block(one, one, one)}, {Shape: block(one, one, one), At: vec(2*one, 0, 0)}}, nil},
		{"blocks a little in each other", []api.Body{{Shape: block(one, one, one)}, {Shape: block(one, one, one), At: vec(2*one-1, 0, 0)}}, []api.Touch{{A: 1, B: 2, Way: x, Deep: 1}}},
		{"a block and a ball", []api.Body{{Shape: block(one, one, one)}, unit(vec(0, 3*one/2, 0))}, []api.Touch{{A: 1, B: 2, Way: y, Deep: one / 2}}},
		{"a ball and a block", []api.Body{unit(vec(0, 3*one/2, 0)), {Shape: block(one, one, one)}}, []api.Touch{{A: 1, B: 2, Way: vec(0, -one, 0), Deep: one / 2}}},
		// So short a vector has no length: by 2.2 alone these would touch, but their boxes do not meet.
		{"too small to tell, apart", []api.Body{{Shape: ball(1)}, {Shape: ball(1), At: vec(200, 0, 0)}}, nil},
		{"too small to tell, 1 apart", []api.Body{{Shape: ball(1)}, {Shape: ball(1), At: vec(0, 0, 3)}}, nil},
		{"too small to tell, side by side", []api.Body{{Shape: ball(1)}, {Shape: ball(1), At: vec(2, 0, 0)}}, []api.Touch{{A: 1, B: 2, Way: y, Deep: 2}}},
		{"many at one place", []api.Body{unit(x), unit(x), unit(vec(90*one, 0, 0)), unit(x), unit(vec(91*one, 0, 0))},
			[]api.Touch{{A: 1, B: 2, Way: y, Deep: 2 * one}, {A: 1, B: 4, Way: y, Deep: 2 * one}, {A: 2, B: 4, Way: y, Deep: 2 * one}, {A: 3, B: 5, Way: x, Deep: one}}},
	} {
		w := still(t)
		spawns(t, w, c.bodies...)
		for range 2 {
			if got := w.Touches(); !slices.Equal(got, c.want) {
				t.Errorf("%s: Touches() = %v, want %v", c.what, got, c.want)
			}
		}
	}
}

// What is told is the caller's: written into, it changes nothing, and it stays as it was told.
func TestFreshAnswers(t *testing.T) {
	w := made(t, Config{Fall: vec(0, -9, 0), Law: plainLaw()})
	for i := range 6 {
		spawns(t, w, small(vec(i*one/8, 0, 0)))
	}
	bodies, touches, near := w.Bodies(), w.Touches(), w.Near(all())
	keptBodies, keptTouches, keptNear := slices.Clone(bodies), slices.Clone(touches), slices.Clone(near)
	if len(bodies) != 6 || len(touches) == 0 || len(near) != 6 {
		t.Fatalf("%v, %v, %v", bodies, touches, near)
	}
	for range 3 {
		w.Step()
		asks(t, "Push", w.Push(2, vec(w.Steps(), 0, 0)), api.OK)
	}
	asks(t, "Remove", w.Remove(1), api.OK)
	if !slices.Equal(bodies, keptBodies) || !slices.Equal(touches, keptTouches) || !slices.Equal(near, keptNear) {
		t.Errorf("what was told changed behind it: %v, %v, %v", bodies, touches, near)
	}
	unchanged(t, w, func() {
		b, c, n := w.Bodies(), w.Touches(), w.Near(all())
		clear(b)
		clear(c)
		clear(n)
		_, _, _ = append(b, api.Body{Id: 99}), append(c, api.Touch{}), append(n, 99)
		clear(b[:cap(b)])
		clear(c[:cap(c)])
		clear(n[:cap(n)])
	})
	if one, other := w.Bodies(), w.Bodies(); &one[0] == &other[0] {
		t.Error("two answers share memory")
	}
}

// Worlds know nothing of each other.
func TestTwoWorlds(t *testing.T) {
	c := Config{Fall: vec(0, -5, 0), Law: plainLaw(), Quota: 9}
	a, b, m := made(t, c), made(t, c), &model{config: c}
	spawns(t, a, small(vec(0, 0, 0)), small(vec(one, 0, 0)))
	a.Step()
	same(t, b, m)
	unchanged(t, a, func() {
		spawns(t, b, small(vec(one/4, 0, 0)))
		b.Step()
		asks(t, "Remove", b.Remove(1), api.OK)
	})
}

// Promise 5.1, 5.2: whatever is asked, in whatever order, a world tells what the chapter does.
func TestDrawn(t *testing.T) {
	d := die(5)
	for range 150 {
		c := Config{Fall: d.around(one / 8), Law: solve.Law{Bounce: d.upTo(one + 1), Rub: d.upTo(one + 1), Rounds: 1 + d.upTo(8)}, Quota: d.upTo(6)}
		w, m := made(t, c), &model{config: c}
		for range 60 {
			id := d.upTo(m.last+3) - 1
			switch d.upTo(9) {
			case 0, 1, 2:
				b := d.spoilt(d.body())
				got, err := w.Spawn(b)
				want, e := m.spawn(b)
				asks(t, fmt.Sprint("Spawn ", b), err, e)
				if got != want {
					t.Fatalf("Spawn(%v) = %d, want %d", b, got, want)
				}
			case 3:
				asks(t, fmt.Sprint("Remove ", id), w.Remove(id), m.remove(id))
			case 4:
				v := d.around(one)
				if d.upTo(4) == 0 {
					v = d.around(2 * fastest)
				}
				asks(t, fmt.Sprint("Push ", id, v), w.Push(id, v), m.push(id, v))
			default:
				w.Step()
				m.step()
			}
			same(t, w, m, boxOf(d.body()))
		}
	}
}
