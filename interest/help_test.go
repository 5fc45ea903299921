package interest

import (
	"fmt"
	"math"
	"slices"
	"testing"

	"gyre/api"
	"gyre/geom"
)

const (
	one      = 65536
	top      = 70368744177664 // 2^46
	farthest = 65536000       // of a place
	greatest = 3276800        // of a size
	most     = math.MaxInt
	low      = math.MinInt
)

func vec(x, y, z int) api.Vec { return api.Vec{X: x, Y: y, Z: z} }

func ball(size int) api.Shape { return api.Shape{Kind: api.Ball, Size: vec(size, 0, 0)} }

func block(x, y, z int) api.Shape { return api.Shape{Kind: api.Block, Size: vec(x, y, z)} }

// turns are a vector with X, Y and Z in each other's place: what holds in one direction is to hold in all of them.
func turns(v api.Vec) [3]api.Vec {
	return [3]api.Vec{v, vec(v.Z, v.X, v.Y), vec(v.Y, v.Z, v.X)}
}

// seen is a body that all teams see.
func seen(id int, s api.Shape, at api.Vec) api.Body {
	return api.Body{Id: id, Shape: s, At: at, Teams: -1}
}

// eye looks by all teams.
func eye(at api.Vec, far int) Eye { return Eye{At: at, Far: far, Teams: -1} }

// cut is 1.1's Cut.
func cut(n int) int { return max(-top, min(n, top)) }

// meet says whether, in one direction, what reaches so far from one place and what reaches so far from another one meet: the words of 1.1 and 2.1.
func meet(p, half, q, far int) bool {
	p, half, q, far = cut(p), cut(half), cut(q), cut(far)
	return cut(p-half) <= cut(q+far) && cut(q-far) <= cut(p+half)
}

// half is 2.1's.
func half(s api.Shape) api.Vec {
	if s.Kind == api.Ball {
		return vec(s.Size.X, s.Size.X, s.Size.X)
	}
	return s.Size
}

// model is what a grid has, asked body by body.
type model map[int]api.Body

func (m model) sees(e Eye) []int {
	var ids []int
	for id, b := range m {
		h := half(b.Shape)
		if e.Far >= 0 && b.Teams&e.Teams != 0 &&
			meet(b.At.X, h.X, e.At.X, e.Far) && meet(b.At.Y, h.Y, e.At.Y, e.Far) && meet(b.At.Z, h.Z, e.At.Z, e.Far) {
			ids = append(ids, id)
		}
	}
	slices.Sort(ids)
	return ids
}

// put puts bodies into a grid and a model.
func put(g *Grid, m model, bodies ...api.Body) {
	for _, b := range bodies {
		g.Put(b)
		m[b.Id] = b
	}
}

// remove takes a body out of a grid and a model.
func remove(g *Grid, m model, id int) {
	g.Remove(id)
	delete(m, id)
}

// sees fails unless an eye sees just these.
func sees(t *testing.T, g *Grid, e Eye, want ...int) {
	t.Helper()
	if got := g.Sees(e); !slices.Equal(got, want) {
		t.Fatalf("Sees(%v) = %v, want %v", e, got, want)
	}
}

// same fails unless a grid tells what a model does: by some eyes, by one at each body, and by one that sees all.
func same(t *testing.T, g *Grid, m model, eyes ...Eye) {
	t.Helper()
	if got := g.Many(); got != len(m) {
		t.Fatalf("Many() = %d, want %d", got, len(m))
	}
	for _, b := range m {
		eyes = append(eyes, eye(b.At, 0), eye(b.At, 3*one))
	}
	for _, e := range append(eyes, eye(vec(0, 0, 0), top), eye(vec(0, 0, 0), 0)) {
		if got, want := g.Sees(e), m.sees(e); !slices.Equal(got, want) {
			t.Fatalf("Sees(%v) = %v, want %v, of %v", e, got, want, m)
		}
	}
	sound(t, g)
}

// sound fails unless each body lies in one cell, where it is looked for, and no cell is empty.
func sound(t *testing.T, g *Grid) {
	t.Helper()
	found := 0
	for c, spots := range g.cells {
		if len(spots) == 0 {
			t.Fatalf("the cell %v is empty", c)
		}
		for _, s := range spots {
			if home, there := g.homes[s.id]; !there || home != c {
				t.Fatalf("%d lies in %v, and is looked for in %v, %v", s.id, c, home, there)
			}
			found++
		}
	}
	if found != len(g.homes) {
		t.Fatalf("%d bodies lie in cells, of %d", found, len(g.homes))
	}
}

// die tells numbers that look drawn, the same each time.
type die uint64

func (d *die) upTo(many int) int {
	*d = *d*6364136223846793005 + 1442695040888963407
	return int(uint64(*d>>33) % uint64(many))
}

// order is the numbers from 0 on, so many, in some order.
func (d *die) order(many int) []int {
	l := make([]int, many)
	for i := range l {
		j := d.upTo(i + 1)
		l[i], l[j] = l[j], i
	}
	return l
}

// within is a number from -far to far; often one beside the border of two cells, or at an end.
func (d *die) within(far int) int {
	switch d.upTo(6) {
	case 0:
		n := d.upTo(2*far/side+1)*side - far + d.upTo(3) - 1
		return max(-far, min(n, far))
	case 1:
		return []int{-far, far}[d.upTo(2)]
	}
	return d.upTo(2*far+1) - far
}

func (d *die) place(far int) api.Vec { return vec(d.within(far), d.within(far), d.within(far)) }

// size is one that may be.
func (d *die) size() int {
	switch d.upTo(4) {
	case 0:
		return []int{1, 2, greatest - 1, greatest}[d.upTo(4)]
	case 1:
		return 1 + d.upTo(greatest)
	}
	return 1 + d.upTo(5*one)
}

func (d *die) shape() api.Shape {
	if d.upTo(2) == 0 {
		return ball(d.size())
	}
	return block(d.size(), d.size(), d.size())
}

// body is one that may be there: within so far of the middle.
func (d *die) body(id, far int) api.Body {
	return api.Body{
		Id: id, Owner: d.upTo(9), Shape: d.shape(), At: d.place(far),
		Speed: d.place(100 * one), Push: d.place(100 * one), Mass: d.upTo(1000 * one), Teams: d.upTo(8),
	}
}

// eye is one that looks from anywhere in the world, or from beside it, near or far.
func (d *die) eye() Eye {
	e := Eye{At: d.place([]int{10 * one, farthest, 2 * farthest}[d.upTo(3)]), Teams: d.upTo(8)}
	switch d.upTo(5) {
	case 0:
		e.Far = d.upTo(3) - 1
	case 1:
		e.Far = d.upTo(2 * farthest)
	case 2:
		e.Far = d.upTo(12)*side + d.upTo(3) - 1
	default:
		e.Far = d.upTo(80 * one)
	}
	return e
}

func (d *die) eyes(many int) []Eye {
	l := make([]Eye, many)
	for i := range l {
		l[i] = d.eye()
	}
	return l
}

// asked is what a grid tells some eyes.
func asked(g *Grid, eyes []Eye) string {
	text := fmt.Sprint(g.Many())
	for _, e := range eyes {
		text += fmt.Sprint(g.Sees(e))
	}
	return text
}

// cellsNear are the cells that are gone through for a box, in order.
func cellsNear(g *Grid, b geom.Box) []cell {
	var l []cell
	for c := range g.near(b) {
		l = append(l, c)
	}
	slices.SortFunc(l, func(a, b cell) int {
		return slices.Compare([]int{a.x, a.y, a.z}, []int{b.x, b.y, b.z})
	})
	return l
}
