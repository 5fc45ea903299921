package world

import (
	"math"
	"math/big"
	"slices"
	"testing"

	"gyre/api"
	"gyre/geom"
	"gyre/plain"
	"gyre/solve"
)

const (
	one      = 65536
	top      = 70368744177664 // 2^46
	farthest = 65536000       // of a place
	fastest  = 6553600        // of a speed
	greatest = 3276800        // of a size
	heaviest = 65536000       // of a mass
	crowd    = 60             // bodies that may be
	owners   = 8
	most     = math.MaxInt
	low      = math.MinInt
	// emptiness is the digest of a world without bodies.
	emptiness = 7347990519673328018
)

func vec(x, y, z int) api.Vec { return api.Vec{X: x, Y: y, Z: z} }

func box(x, y, z, u, v, w int) geom.Box { return geom.Box{Low: vec(x, y, z), High: vec(u, v, w)} }

func ball(size int) api.Shape { return api.Shape{Kind: api.Ball, Size: vec(size, 0, 0)} }

func block(x, y, z int) api.Shape { return api.Shape{Kind: api.Block, Size: vec(x, y, z)} }

// turns are a vector with X, Y and Z in each other's place: what holds in one direction is to hold in all of them.
func turns(v api.Vec) [3]api.Vec {
	return [3]api.Vec{v, vec(v.Z, v.X, v.Y), vec(v.Y, v.Z, v.X)}
}

// small is a small ball of mass One somewhere.
func small(at api.Vec) api.Body {
	return api.Body{Shape: ball(one / 4), At: at, Mass: one}
}

// plainLaw is a law that may be: no bounce, no rub, one round.
func plainLaw() solve.Law { return solve.Law{Rounds: 1} }

// made is a new world.
func made(t *testing.T, c Config) *World {
	t.Helper()
	w, err := New(c)
	if err != nil || w == nil {
		t.Fatalf("New(%v) = %v, %v", c, w, err)
	}
	return w
}

// still is a world in which nothing falls, bounces or rubs.
func still(t *testing.T) *World {
	t.Helper()
	return made(t, Config{Law: plainLaw(), Quota: crowd})
}

// asks fails unless an error is that one, without a place.
func asks(t *testing.T, what string, err error, want api.Errno) {
	t.Helper()
	if e, bare := plain.Bare(err); e != want || !bare {
		t.Fatalf("%s: %v, want %v", what, err, want)
	}
}

// spawns puts bodies there: their numbers.
func spawns(t *testing.T, w *World, bodies ...api.Body) []int {
	t.Helper()
	var ids []int
	for _, b := range bodies {
		id, err := w.Spawn(b)
		if err != nil {
			t.Fatalf("Spawn(%v): %v", b, err)
		}
		ids = append(ids, id)
	}
	return ids
}

// refuses fails unless Spawn tells that error and no number, and nothing is changed.
func refuses(t *testing.T, w *World, b api.Body, want api.Errno) {
	t.Helper()
	unchanged(t, w, func() {
		id, err := w.Spawn(b)
		asks(t, "Spawn", err, want)
		if id != 0 {
			t.Fatalf("Spawn(%v) = %d beside an error", b, id)
		}
	})
}

// unchanged fails if a call changes anything that is to be seen.
func unchanged(t *testing.T, w *World, call func()) {
	t.Helper()
	bodies, touches, near := w.Bodies(), w.Touches(), w.Near(all())
	digest, steps := w.Digest(), w.Steps()
	call()
	if !slices.Equal(bodies, w.Bodies()) || !slices.Equal(touches, w.Touches()) || !slices.Equal(near, w.Near(all())) ||
		digest != w.Digest() || steps != w.Steps() {
		t.Fatalf("%v became %v, %v became %v, %v became %v, steps %d became %d",
			bodies, w.Bodies(), touches, w.Touches(), near, w.Near(all()), steps, w.Steps())
	}
}

// all is a box that every body's meets.
func all() geom.Box { return box(-top, -top, -top, top, top, top) }

// is fails unless a body is there, at a place, with a speed.
func is(t *testing.T, w *World, id int, at, speed api.Vec) {
	t.Helper()
	b, ok := w.Body(id)
	if !ok || b.At != at || b.Speed != speed {
		t.Fatalf("body %d: at %v, speed %v, %v; want at %v, speed %v", id, b.At, b.Speed, ok, at, speed)
	}
}

// die tells numbers that look drawn, the same each time.
type die uint64

func (d *die) upTo(many int) int {
	*d = *d*6364136223846793005 + 1442695040888963407
	return int(uint64(*d>>33) % uint64(many))
}

// around is a vector with parts from -far to far.
func (d *die) around(far int) api.Vec {
	f := func() int { return d.upTo(2*far+1) - far }
	return vec(f(), f(), f())
}

func (d *die) shape() api.Shape {
	f := func() int { return 1 + d.upTo(2*one) }
	if d.upTo(2) == 0 {
		return ball(f())
	}
	return block(f(), f(), f())
}

// body is one that may be, in a small piece of the world or at one of its ends.
func (d *die) body() api.Body {
	b := api.Body{Id: d.upTo(9), Owner: d.upTo(4), Shape: d.shape(), At: d.around(5 * one), Speed: d.around(one), Push: d.around(one / 4),
		Mass: d.upTo(4) * one, Teams: d.upTo(9) - 4}
	switch d.upTo(8) {
	case 0:
		b.At.X = farthest - d.upTo(3)*one
	case 1:
		b.At.Z = -farthest + d.upTo(2)
	case 2:
		b.Speed = d.around(fastest)
	}
	return b
}

// spoilt is a body, with one part of it wrong perhaps.
func (d *die) spoilt(b api.Body) api.Body {
	switch d.upTo(9) {
	case 0:
		b.Shape.Kind = d.upTo(4)
	case 1:
		b.Shape.Size.Y = d.upTo(2) * (greatest + 1)
	case 2:
		b.Owner = d.upTo(11) - 1
	case 3:
		b.Mass = heaviest + d.upTo(2)
	case 4:
		b.At.Y = farthest + d.upTo(2)
	case 5:
		b.Speed.Z = -fastest - d.upTo(2)
	case 6:
		b.Push.X = fastest + d.upTo(2)
	}
	return b
}

// What follows tells the chapter once more, body by body, without a tree. Chapters 2 and 4 are asked by their faces: their own tests are elsewhere.

// model is a world.
type model struct {
	config Config
	bodies []api.Body
	last   int
	steps  int
}

func (m *model) find(id int) int {
	for i, b := range m.bodies {
		if b.Id == id {
			return i
		}
	}
	return -1
}

// far says whether a part of a vector is beyond a bound.
func far(v api.Vec, bound int) bool {
	for _, n := range []int{v.X, v.Y, v.Z} {
		if n > bound || n < -bound {
			return true
		}
	}
	return false
}

func (m *model) spawn(b api.Body) (int, api.Errno) {
	if !geom.Right(b.Shape) {
		return 0, api.ErrArg
	}
	if b.Owner < 0 || b.Owner > owners || b.Mass < 0 || b.Mass > heaviest || far(b.At, farthest) || far(b.Speed, fastest) || far(b.Push, fastest) {
		return 0, api.ErrRange
	}
	has := 0
	for _, o := range m.bodies {
		if o.Owner == b.Owner {
			has++
		}
	}
	if len(m.bodies) == crowd || b.Owner > 0 && has >= m.config.Quota {
		return 0, api.ErrLimit
	}
	m.last++
	b.Id = m.last
	m.bodies = append(m.bodies, b)
	return b.Id, api.OK
}

func (m *model) remove(id int) api.Errno {
	i := m.find(id)
	if i < 0 {
		return api.ErrMissing
	}
	var rest []api.Body
	for j, b := range m.bodies {
		if j != i {
			rest = append(rest, b)
		}
	}
	m.bodies = rest
	return api.OK
}

func (m *model) push(id int, v api.Vec) api.Errno {
	i := m.find(id)
	if i < 0 {
		return api.ErrMissing
	}
	if far(v, fastest) {
		return api.ErrRange
	}
	m.bodies[i].Push = v
	return api.OK
}

// boxOf is Around, part by part.
func boxOf(b api.Body) geom.Box {
	h := b.Shape.Size
	if b.Shape.Kind == api.Ball {
		h = vec(h.X, h.X, h.X)
	}
	return box(b.At.X-h.X, b.At.Y-h.Y, b.At.Z-h.Z, b.At.X+h.X, b.At.Y+h.Y, b.At.Z+h.Z)
}

// meet is 2.1's Meet, part by part.
func meet(a, b geom.Box) bool {
	return a.Low.X <= b.High.X && b.Low.X <= a.High.X &&
		a.Low.Y <= b.High.Y && b.Low.Y <= a.High.Y &&
		a.Low.Z <= b.High.Z && b.Low.Z <= a.High.Z
}

func (m *model) near(b geom.Box) []int {
	var l []int
	for _, o := range m.bodies {
		if meet(boxOf(o), b) {
			l = append(l, o.Id)
		}
	}
	return l
}

func (m *model) touches() []api.Touch {
	var l []api.Touch
	for i, a := range m.bodies {
		for _, b := range m.bodies[i+1:] {
			way, deep, ok := geom.Touches(a.Shape, a.At, b.Shape, b.At)
			if ok && meet(boxOf(a), boxOf(b)) {
				l = append(l, api.Touch{A: a.Id, B: b.Id, Way: way, Deep: deep})
			}
		}
	}
	return l
}

// kept is a number within bounds, and whether it was before.
func kept(n, bound int) (int, bool) {
	switch {
	case n > bound:
		return bound, false
	case n < -bound:
		return -bound, false
	}
	return n, true
}

func (m *model) step() {
	for i := range m.bodies {
		b := &m.bodies[i]
		if b.Mass == 0 {
			continue
		}
		b.Speed.X, _ = kept(b.Speed.X+b.Push.X+m.config.Fall.X, fastest)
		b.Speed.Y, _ = kept(b.Speed.Y+b.Push.Y+m.config.Fall.Y, fastest)
		b.Speed.Z, _ = kept(b.Speed.Z+b.Push.Z+m.config.Fall.Z, fastest)
	}
	touches := m.touches()
	m.bodies = solve.Speeds(m.bodies, touches, m.config.Law)
	for i := range m.bodies {
		goOn(&m.bodies[i].At.X, &m.bodies[i].Speed.X)
		goOn(&m.bodies[i].At.Y, &m.bodies[i].Speed.Y)
		goOn(&m.bodies[i].At.Z, &m.bodies[i].Speed.Z)
	}
	m.bodies = solve.Places(m.bodies, touches)
	m.steps++
}

// goOn moves one part of a place by that of a speed.
func goOn(at, speed *int) {
	to, ok := kept(*at+*speed, farthest)
	*at = to
	if !ok {
		*speed = 0
	}
}

// digest is worked out in numbers without bounds.
func (m *model) digest() int {
	ring := new(big.Int).Lsh(big.NewInt(1), 64)
	d, _ := new(big.Int).SetString("14695981039346656037", 10)
	take := func(numbers ...int) {
		for _, n := range numbers {
			d.Xor(d, new(big.Int).Mod(big.NewInt(int64(n)), ring))
			d.Mod(d.Mul(d, big.NewInt(1099511628211)), ring)
		}
	}
	triple := func(v api.Vec) { take(v.X, v.Y, v.Z) }
	for _, b := range m.bodies {
		take(b.Id, b.Owner, b.Shape.Kind)
		triple(b.Shape.Size)
		triple(b.At)
		triple(b.Speed)
		triple(b.Push)
		take(b.Mass, b.Teams)
	}
	return int(d.Rsh(d, 1).Int64())
}

// same fails unless a world tells what a model does.
func same(t *testing.T, w *World, m *model, boxes ...geom.Box) {
	t.Helper()
	if got := w.Bodies(); !slices.Equal(got, m.bodies) {
		t.Fatalf("Bodies() = %v, want %v", got, m.bodies)
	}
	if got, want := w.Touches(), m.touches(); !slices.Equal(got, want) {
		t.Fatalf("Touches() = %v, want %v, of %v", got, want, m.bodies)
	}
	if got, want := w.Digest(), m.digest(); got != want {
		t.Fatalf("Digest() = %d, want %d, of %v", got, want, m.bodies)
	}
	if got := w.Steps(); got != m.steps {
		t.Fatalf("Steps() = %d, want %d", got, m.steps)
	}
	for _, b := range m.bodies {
		boxes = append(boxes, boxOf(b))
	}
	for _, b := range append(boxes, all(), geom.Box{}) {
		if got, want := w.Near(b), m.near(b); !slices.Equal(got, want) {
			t.Fatalf("Near(%v) = %v, want %v, of %v", b, got, want, m.bodies)
		}
	}
	for id := -1; id <= m.last+1; id++ {
		i := m.find(id)
		got, ok := w.Body(id)
		if ok != (i >= 0) || ok && got != m.bodies[i] || !ok && got != (api.Body{}) {
			t.Fatalf("Body(%d) = %v, %v", id, got, ok)
		}
	}
}
