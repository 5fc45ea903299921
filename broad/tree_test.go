package broad

import (
	"fmt"
	"slices"
	"testing"

	"gyre/api"
	"gyre/geom"
)

// How it was built is not seen (3): the same boxes, put in other orders, by other ways round, in trees of other fat, tell the same.
func TestBuildIsNotSeen(t *testing.T) {
	for seed := range 30 {
		d := die(seed)
		m := model{}
		for i := range 1 + d.upTo(bodies) {
			m.put(i*7-50, d.box())
		}
		pairs := m.pairs()
		for _, fat := range []int{0, 1, one / 2, 2 * one, fattest} {
			tree := made(t, fat)
			roundabout(t, &d, tree, m)
			if got := tree.Pairs(); !slices.Equal(got, pairs) {
				t.Fatalf("seed %d, fat %d: Pairs = %v, want %v", seed, fat, got, pairs)
			}
			same(t, tree, m, d.box(), d.box(), d.box())
		}
	}
}

// roundabout fills a tree with what a model has, in some order, most of it after having been elsewhere, or away.
func roundabout(t *testing.T, d *die, tree *Tree, m model) {
	t.Helper()
	ids := m.ids()
	for _, i := range d.order(len(ids)) {
		puts(t, tree, ids[i], d.box())
	}
	for _, i := range d.order(len(ids)) {
		if d.upTo(3) == 0 {
			asks(t, "Remove", tree.Remove(ids[i]), api.OK)
		}
	}
	for _, i := range d.order(len(ids)) {
		if d.upTo(2) == 0 {
			puts(t, tree, ids[i], d.nudged(m[ids[i]], one))
		}
	}
	for _, i := range d.order(len(ids)) {
		puts(t, tree, ids[i], m[ids[i]])
	}
}

// Promises 3.1, 3.2: whatever is done, right or wrong, a tree tells what its boxes say, and is not too high.
func TestAnyCalls(t *testing.T) {
	for seed := range 40 {
		d := die(seed)
		tree, m := made(t, []int{0, 1, one / 4, one, fattest}[seed%5]), model{}
		many := []int{3, 8, 25, bodies + 8}[seed%4]
		for range 250 {
			id := d.upTo(many)
			b := d.box()
			switch d.upTo(8) {
			case 0, 1:
				asks(t, "Remove", tree.Remove(id), m.remove(id))
			case 2, 3:
				if was, there := m[id]; there {
					b = d.nudged(was, one/4)
				}
				asks(t, "Put", tree.Put(id, b), m.put(id, b))
			case 4:
				b.Low.Y, b.High.Y = b.High.Y, b.Low.Y
				asks(t, "Put", tree.Put(id, b), m.put(id, b))
			default:
				asks(t, "Put", tree.Put(id, b), m.put(id, b))
			}
			same(t, tree, m, b)
		}
	}
}

// rows are ways to lay many boxes, each of which would let a tree that is not kept level grow as high as it has boxes.
func rows() map[string]func(i int) geom.Box {
	return map[string]func(i int) geom.Box{
		"rising":       func(i int) geom.Box { return cube(vec(3*i*one, 0, 0), one) },
		"falling":      func(i int) geom.Box { return cube(vec(0, -3*i*one, 0), one) },
		"one place":    func(i int) geom.Box { return cube(vec(5, 5, 5), one) },
		"one point":    func(i int) geom.Box { return cube(vec(0, 0, 0), 0) },
		"growing":      func(i int) geom.Box { return cube(vec(-i*one, -i*one, -i*one), 2*i*one) },
		"shrinking":    func(i int) geom.Box { return cube(vec((i-60)*one, (i-60)*one, (i-60)*one), 2*(60-i)*one) },
		"doubling":     func(i int) geom.Box { return cube(vec(1<<(i%46), 0, 0), 1) },
		"side by side": func(i int) geom.Box { return cube(vec(0, 0, i*one), one) },
		"turn by turn": func(i int) geom.Box { return cube(vec((i%2*2-1)*i*one, 0, 0), one) },
		"whole world":  func(i int) geom.Box { return cube(vec(-top, -top, -top), 2*top) },
	}
}

// Promise 3.2: High: 0 of at most one box; of n at most 40, and below n, while they come and while they go.
func TestHigh(t *testing.T) {
	for name, row := range rows() {
		for _, fat := range []int{0, one, fattest} {
			t.Run(fmt.Sprint(name, fat), func(t *testing.T) {
				tree, m := made(t, fat), model{}
				for i := range bodies {
					m.put(i, row(i))
					puts(t, tree, i, row(i))
					same(t, tree, m)
				}
				for i := range bodies {
					puts(t, tree, i, row(bodies-1-i))
					m.put(i, row(bodies-1-i))
				}
				same(t, tree, m)
				leave(t, tree, m)
			})
		}
	}
}

// leave takes away all boxes: those from one end first, where a tree that is mended on the way in alone would lean over.
func leave(t *testing.T, tree *Tree, m model) {
	t.Helper()
	for _, id := range m.ids() {
		asks(t, "Remove", tree.Remove(id), m.remove(id))
		same(t, tree, m)
	}
	if tree.High() != 0 || tree.Many() != 0 {
		t.Fatalf("behind the last one: High %d, Many %d", tree.High(), tree.Many())
	}
}

// Promise 3.2: a tree whose boxes come at one end and go at the other stays as low.
func TestHighOfAMovingRow(t *testing.T) {
	tree, m := made(t, one), model{}
	for i := range 600 {
		if i >= 50 {
			asks(t, "Remove", tree.Remove(i-50), m.remove(i-50))
		}
		b := cube(vec(i*one, 0, 0), one)
		m.put(i, b)
		puts(t, tree, i, b)
		if i%20 == 0 {
			same(t, tree, m)
		}
	}
}

// What fat is for (3.2): a box that moves little stays where it hangs, one that moves far or shrinks much does not.
func TestSmallMovesHangNothingAnew(t *testing.T) {
	tree := made(t, 100)
	puts(t, tree, 1, cube(vec(0, 0, 0), 50))
	for _, c := range []struct {
		b    geom.Box
		stay bool
	}{
		{cube(vec(100, -100, 3), 50), true},
		{cube(vec(-100, 0, 0), 50), true},
		{cube(vec(101, 0, 0), 50), false},
		{cube(vec(50, 50, 50), 50), true},
		{box(-5000, -5000, -5000, 5000, 5000, 5000), false},
		{cube(vec(0, 0, 0), 50), false},
	} {
		was := tree.leaves[1]
		puts(t, tree, 1, c.b)
		if got := tree.leaves[1] == was; got != c.stay {
			t.Errorf("%v stays: %v", c.b, got)
		}
		same(t, tree, model{1: c.b})
	}
}
