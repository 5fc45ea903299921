package broad

import (
	"math"
	"slices"
	"testing"

	"gyre/api"
	"gyre/geom"
	"gyre/plain"
)

const (
	one     = 65536
	top     = 70368744177664 // 2^46
	fattest = 3276800        // the greatest fat that may be
	bodies  = 60
	tall    = 40 // no tree is higher
	most    = math.MaxInt
	low     = math.MinInt
)

func vec(x, y, z int) api.Vec { return api.Vec{X: x, Y: y, Z: z} }

func box(x, y, z, u, v, w int) geom.Box { return geom.Box{Low: vec(x, y, z), High: vec(u, v, w)} }

// cube is a box from one place on, so long in each direction.
func cube(at api.Vec, side int) geom.Box {
	return geom.Box{Low: at, High: vec(at.X+side, at.Y+side, at.Z+side)}
}

// turns are a box with X, Y and Z in each other's place: what holds in one direction is to hold in all of them.
func turns(b geom.Box) [3]geom.Box {
	l, h := b.Low, b.High
	return [3]geom.Box{b, box(l.Z, l.X, l.Y, h.Z, h.X, h.Y), box(l.Y, l.Z, l.X, h.Y, h.Z, h.X)}
}

// die tells numbers that look drawn, the same each time.
type die uint64

func (d *die) upTo(many int) int {
	*d = *d*6364136223846793005 + 1442695040888963407
	return int(uint64(*d>>33) % uint64(many))
}

// order is the numbers from 0 on, so many, in some order.
func (d *die) order(many int) []int {
	l := make([]int, many)
	for i := range l {
		j := d.upTo(i + 1)
		l[i], l[j] = l[j], i
	}
	return l
}

// box is one that may be: in a small piece of the world, so that many meet, or reaching to its ends.
func (d *die) box() geom.Box {
	var b geom.Box
	part := func(from, to *int) {
		edges := []int{-top, -top + 1, -one, 0, one, top - 1, top}
		switch d.upTo(8) {
		case 0:
			*from, *to = edges[d.upTo(len(edges))], edges[d.upTo(len(edges))]
		case 1:
			*from = d.upTo(9) - 4
			*to = *from
		default:
			*from = d.upTo(12*one) - 6*one
			*to = *from + d.upTo(4*one)
		}
		if *from > *to {
			*from, *to = *to, *from
		}
	}
	part(&b.Low.X, &b.High.X)
	part(&b.Low.Y, &b.High.Y)
	part(&b.Low.Z, &b.High.Z)
	return b
}

// nudged is a box, a little further on.
func (d *die) nudged(b geom.Box, by int) geom.Box {
	v := vec(d.upTo(2*by+1)-by, d.upTo(2*by+1)-by, d.upTo(2*by+1)-by)
	m := box(b.Low.X+v.X, b.Low.Y+v.Y, b.Low.Z+v.Z, b.High.X+v.X, b.High.Y+v.Y, b.High.Z+v.Z)
	if wrong(m) != api.OK {
		return b
	}
	return m
}

// wrong is what 3.1 says of a box, part by part.
func wrong(b geom.Box) api.Errno {
	if b.Low.X > b.High.X || b.Low.Y > b.High.Y || b.Low.Z > b.High.Z {
		return api.ErrArg
	}
	for _, n := range []int{b.Low.X, b.Low.Y, b.Low.Z, b.High.X, b.High.Y, b.High.Z} {
		if n < -top || n > top {
			return api.ErrRange
		}
	}
	return api.OK
}

// meet is 2.1's Meet, part by part.
func meet(a, b geom.Box) bool {
	return a.Low.X <= b.High.X && b.Low.X <= a.High.X &&
		a.Low.Y <= b.High.Y && b.Low.Y <= a.High.Y &&
		a.Low.Z <= b.High.Z && b.Low.Z <= a.High.Z
}

// model is what a tree has, asked box by box.
type model map[int]geom.Box

func (m model) put(id int, b geom.Box) api.Errno {
	if e := wrong(b); e != api.OK {
		return e
	}
	if _, there := m[id]; !there && len(m) >= bodies {
		return api.ErrLimit
	}
	m[id] = b
	return api.OK
}

func (m model) remove(id int) api.Errno {
	if _, there := m[id]; !there {
		return api.ErrMissing
	}
	delete(m, id)
	return api.OK
}

func (m model) ids() []int {
	var l []int
	for id := range m {
		l = append(l, id)
	}
	slices.Sort(l)
	return l
}

func (m model) query(b geom.Box) []int {
	var l []int
	for _, id := range m.ids() {
		if meet(m[id], b) {
			l = append(l, id)
		}
	}
	return l
}

func (m model) pairs() [][2]int {
	var l [][2]int
	ids := m.ids()
	for i, a := range ids {
		for _, b := range ids[i+1:] {
			if meet(m[a], m[b]) {
				l = append(l, [2]int{a, b})
			}
		}
	}
	return l
}

// made is a new tree.
func made(t *testing.T, fat int) *Tree {
	t.Helper()
	tree, err := New(fat)
	if err != nil || tree == nil {
		t.Fatalf("New(%d) = %v, %v", fat, tree, err)
	}
	return tree
}

// asks fails unless an error is that one, without a place.
func asks(t *testing.T, what string, err error, want api.Errno) {
	t.Helper()
	if e, bare := plain.Bare(err); e != want || !bare {
		t.Fatalf("%s: %v, want %v", what, err, want)
	}
}

func puts(t *testing.T, tree *Tree, id int, b geom.Box) {
	t.Helper()
	asks(t, "Put", tree.Put(id, b), api.OK)
}

// same fails unless a tree tells what a model does, of its own boxes and of some others.
func same(t *testing.T, tree *Tree, m model, others ...geom.Box) {
	t.Helper()
	if got := tree.Many(); got != len(m) {
		t.Fatalf("Many() = %d, want %d", got, len(m))
	}
	if got, want := tree.Pairs(), m.pairs(); !slices.Equal(got, want) {
		t.Fatalf("Pairs() = %v, want %v, of %v", got, want, m)
	}
	for _, id := range m.ids() {
		others = append(others, m[id])
	}
	for _, b := range append(others, geom.Box{}, box(-top, -top, -top, top, top, top)) {
		if got, want := tree.Query(b), m.query(b); !slices.Equal(got, want) {
			t.Fatalf("Query(%v) = %v, want %v, of %v", b, got, want, m)
		}
	}
	high := tree.High()
	switch n := len(m); {
	case n <= 1 && high != 0:
		t.Fatalf("High() = %d of %d boxes", high, n)
	case n > 1 && (high >= n || high > tall || 1<<high < n):
		t.Fatalf("High() = %d of %d boxes", high, n)
	}
	sound(t, tree)
}

// sound fails unless a tree is put together as node says: that is what keeps it low, and what Query leans on.
func sound(t *testing.T, tree *Tree) {
	t.Helper()
	if tree.root == nil {
		if len(tree.leaves) != 0 {
			t.Fatalf("%d leaves below no root", len(tree.leaves))
		}
		return
	}
	found := 0
	var walk func(n, above *node)
	walk = func(n, above *node) {
		if n.above != above {
			t.Fatalf("%v does not know what it hangs below", n)
		}
		a, b := n.below[0], n.below[1]
		if a == nil && b == nil {
			found++
			if n.high != 0 || tree.leaves[n.id] != n || !geom.Within(n.box, n.room) {
				t.Fatalf("%v is no right leaf", n)
			}
			return
		}
		walk(a, n)
		walk(b, n)
		if n.high != 1+max(a.high, b.high) || max(a.high, b.high)-min(a.high, b.high) > 1 || n.room != geom.Both(a.room, b.room) {
			t.Fatalf("%v is no right joint of %v and %v", n, a, b)
		}
	}
	walk(tree.root, nil)
	if found != len(tree.leaves) {
		t.Fatalf("%d leaves hang, of %d", found, len(tree.leaves))
	}
}
