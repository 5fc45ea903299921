package solve

import (
	"math"
	"math/big"
	"slices"
	"testing"

	"gyre/api"
)

const (
	one      = 65536
	top      = 70368744177664 // 2^46
	farthest = 65536000       // of a place
	fastest  = 6553600        // of a speed
	slack    = 655            // a hundredth of one
	most     = math.MaxInt
	low      = math.MinInt
)

func vec(x, y, z int) api.Vec { return api.Vec{X: x, Y: y, Z: z} }

// mover is a body of some mass and speed, with something in each field, so that it is seen if one changes.
func mover(id, mass int, speed api.Vec) api.Body {
	return api.Body{Id: id, Owner: id + 1, Shape: api.Shape{Kind: api.Block, Size: vec(id+2, id+3, id+4)},
		At: vec(id+5, id+6, id+7), Speed: speed, Push: vec(id+8, id+9, id+10), Mass: mass, Teams: id + 11}
}

// placed is a body of some mass somewhere.
func placed(id, mass int, at api.Vec) api.Body {
	b := mover(id, mass, vec(id+12, id+13, id+14))
	b.At = at
	return b
}

func touch(a, b int, way api.Vec, deep int) api.Touch {
	return api.Touch{A: a, B: b, Way: way, Deep: deep}
}

// withSpeeds is bodies, each with another speed.
func withSpeeds(bodies []api.Body, speeds ...api.Vec) []api.Body {
	l := slices.Clone(bodies)
	for i := range l {
		l[i].Speed = speeds[i]
	}
	return l
}

// withPlaces is bodies, each somewhere else.
func withPlaces(bodies []api.Body, places ...api.Vec) []api.Body {
	l := slices.Clone(bodies)
	for i := range l {
		l[i].At = places[i]
	}
	return l
}

func checkSpeeds(t *testing.T, bodies []api.Body, touches []api.Touch, w Law, want []api.Body) {
	t.Helper()
	if got := Speeds(bodies, touches, w); !slices.Equal(got, want) {
		t.Errorf("Speeds(%v, %v, %v)\n= %v\nwant %v", bodies, touches, w, got, want)
	}
}

func checkPlaces(t *testing.T, bodies []api.Body, touches []api.Touch, want []api.Body) {
	t.Helper()
	if got := Places(bodies, touches); !slices.Equal(got, want) {
		t.Errorf("Places(%v, %v)\n= %v\nwant %v", bodies, touches, got, want)
	}
}

// die tells numbers that look drawn, the same each time.
type die uint64

func (d *die) upTo(many int) int {
	*d = *d*6364136223846793005 + 1442695040888963407
	return int(uint64(*d>>33) % uint64(many))
}

// number is one of any size, mostly one that may be in a world.
func (d *die) number() int {
	edges := []int{0, 1, -1, one, -one, top, -top, top + 1, most, low, fastest, -fastest, fastest + 1, farthest + 1, 255, 256}
	switch d.upTo(8) {
	case 0:
		return edges[d.upTo(len(edges))]
	case 1:
		return d.upTo(1<<(1+d.upTo(30))) - d.upTo(1<<(1+d.upTo(30)))
	case 2:
		return (d.upTo(9) - 4) * one
	}
	return d.upTo(20*one) - 10*one
}

func (d *die) vec() api.Vec { return vec(d.number(), d.number(), d.number()) }

// mass is one that may be, none, or one that is wrong.
func (d *die) mass() int {
	edges := []int{0, 0, -1, low, 1, 2, 1 << 31, 1 << 32, 1<<32 + 1, 1000 * one, top, most}
	if d.upTo(3) == 0 {
		return edges[d.upTo(len(edges))]
	}
	return 1 + d.upTo(5*one)
}

// way is one of length 1, or anything.
func (d *die) way() api.Vec {
	ways := []api.Vec{vec(one, 0, 0), vec(-one, 0, 0), vec(0, one, 0), vec(0, 0, -one), vec(39321, 52428, 0), vec(-37837, 37837, 37837), vec(0, -46340, 46340)}
	if d.upTo(6) == 0 {
		return d.vec()
	}
	return ways[d.upTo(len(ways))]
}

func (d *die) bodies() []api.Body {
	var l []api.Body
	for i := range d.upTo(7) {
		b := mover(3*i-3, d.mass(), d.vec())
		b.At = d.vec()
		l = append(l, b)
	}
	// They need not lie by their numbers.
	for i := range l {
		j := d.upTo(i + 1)
		l[i], l[j] = l[j], l[i]
	}
	return l
}

func (d *die) touches() []api.Touch {
	deeps := []int{slack, slack + 1, slack + 4, slack + 5, 0, -one, top, most, low}
	var l []api.Touch
	for range d.upTo(9) {
		deep := d.upTo(2 * one)
		if d.upTo(4) == 0 {
			deep = deeps[d.upTo(len(deeps))]
		}
		l = append(l, touch(3*d.upTo(8)-3, 3*d.upTo(8)-3, d.way(), deep))
	}
	return l
}

// law is one that may be, seldom one that may not.
func (d *die) law() Law {
	w := Law{d.upTo(one + 1), d.upTo(one + 1), 1 + d.upTo(20)}
	switch d.upTo(12) {
	case 0:
		w.Bounce = d.number()
	case 1:
		w.Rub = d.number()
	case 2:
		w.Rounds = d.upTo(30) - 5
	case 3, 4:
		w.Bounce = 0
	case 5, 6:
		w.Rub = one
	}
	return w
}

// What follows tells the chapter once more, in numbers without bounds that are cut where chapter 1 says so.

// tri is a vector, part by part.
type tri [3]int

func triOf(v api.Vec) tri { return tri{v.X, v.Y, v.Z} }

func (v tri) vec() api.Vec { return vec(v[0], v[1], v[2]) }

func cut(n *big.Int) int {
	if n.Cmp(big.NewInt(top)) > 0 {
		return top
	}
	if n.Cmp(big.NewInt(-top)) < 0 {
		return -top
	}
	return int(n.Int64())
}

func whole(n int) *big.Int { return big.NewInt(int64(cut(big.NewInt(int64(n))))) }

func sum(a, b int) int { return cut(new(big.Int).Add(whole(a), whole(b))) }

func less(a, b int) int { return cut(new(big.Int).Sub(whole(a), whole(b))) }

func product(a, b int) int {
	p := new(big.Int).Mul(whole(a), whole(b))
	return cut(p.Quo(p, big.NewInt(one)))
}

// quotient is by numbers above 0 alone: the chapter has no others.
func quotient(a, b int) int {
	p := new(big.Int).Mul(whole(a), big.NewInt(one))
	return cut(p.Quo(p, whole(b)))
}

func dot(a, b tri) int {
	return sum(sum(product(a[0], b[0]), product(a[1], b[1])), product(a[2], b[2]))
}

func long(a tri) int {
	square := new(big.Int).Mul(whole(dot(a, a)), big.NewInt(one))
	return cut(square.Sqrt(square))
}

func clamp(a tri, bound int) tri {
	for i, n := range a {
		a[i] = min(max(n, -bound), bound)
	}
	return a
}

// along is a vector, and so much by a way on it.
func along(a, way tri, much int) tri {
	for i := range a {
		a[i] = sum(a[i], product(way[i], much))
	}
	return a
}

// against is a vector, and so much by a way off it.
func against(a, way tri, much int) tri {
	for i := range a {
		a[i] = less(a[i], product(way[i], much))
	}
	return a
}

func between(b, a tri) tri { return tri{less(b[0], a[0]), less(b[1], a[1]), less(b[2], a[2])} }

// thing is a body of the model.
type thing struct{ at, speed tri }

// model is bodies, looked for one by one.
type model struct {
	bodies []api.Body
	things []thing
}

func modelOf(bodies []api.Body) *model {
	m := &model{bodies: bodies}
	for _, b := range bodies {
		m.things = append(m.things, thing{triOf(b.At), triOf(b.Speed)})
	}
	return m
}

// find is where a body lies; -1: nowhere.
func (m *model) find(id int) int {
	for i, b := range m.bodies {
		if b.Id == id {
			return i
		}
	}
	return -1
}

func (m *model) light(i int) int {
	if m.bodies[i].Mass <= 0 {
		return 0
	}
	return quotient(one, m.bodies[i].Mass)
}

func (m *model) give(a, b int, way tri, j int) {
	m.things[a].speed = against(m.things[a].speed, way, product(j, m.light(a)))
	m.things[b].speed = along(m.things[b].speed, way, product(j, m.light(b)))
}

func (m *model) hit(c api.Touch, w Law) {
	a, b, way := m.find(c.A), m.find(c.B), triOf(c.Way)
	if a < 0 || b < 0 || c.A == c.B {
		return
	}
	all := sum(m.light(a), m.light(b))
	n := dot(between(m.things[b].speed, m.things[a].speed), way)
	if all == 0 || n >= 0 {
		return
	}
	j := quotient(product(-n, one+w.Bounce), all)
	m.give(a, b, way, j)
	v := between(m.things[b].speed, m.things[a].speed)
	side := against(v, way, dot(v, way))
	far := long(side)
	if far == 0 {
		return
	}
	rub := product(j, w.Rub)
	if q := quotient(far, all); q < rub {
		rub = q
	}
	m.give(a, b, tri{quotient(side[0], far), quotient(side[1], far), quotient(side[2], far)}, -rub)
}

func (m *model) part(c api.Touch) {
	a, b, way := m.find(c.A), m.find(c.B), triOf(c.Way)
	if a < 0 || b < 0 || c.A == c.B || c.Deep <= slack {
		return
	}
	all := sum(m.light(a), m.light(b))
	if all <= 0 {
		return
	}
	d := quotient(less(c.Deep, slack)/5, all)
	m.things[a].at = clamp(against(m.things[a].at, way, product(d, m.light(a))), farthest)
	m.things[b].at = clamp(along(m.things[b].at, way, product(d, m.light(b))), farthest)
}

// modelSpeeds is 4.2.
func modelSpeeds(bodies []api.Body, touches []api.Touch, w Law) []api.Body {
	if w.Bounce < 0 || w.Bounce > one || w.Rub < 0 || w.Rub > one || w.Rounds < 1 || w.Rounds > 20 {
		return slices.Clone(bodies)
	}
	m := modelOf(bodies)
	for i := 0; i < w.Rounds; i++ {
		for _, c := range touches {
			m.hit(c, w)
		}
	}
	out := slices.Clone(bodies)
	for i := range out {
		out[i].Speed = clamp(m.things[i].speed, fastest).vec()
	}
	return out
}

// modelPlaces is 4.3.
func modelPlaces(bodies []api.Body, touches []api.Touch) []api.Body {
	m := modelOf(bodies)
	for _, c := range touches {
		m.part(c)
	}
	out := slices.Clone(bodies)
	for i := range out {
		out[i].At = m.things[i].at.vec()
	}
	return out
}
