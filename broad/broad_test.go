package broad

import (
	"fmt"
	"slices"
	"testing"

	"gyre/api"
	"gyre/geom"
)

// Promise 3.1: New: fat below 0, 0, MaxSize and above; no box yet.
func TestNew(t *testing.T) {
	for _, fat := range []int{-1, fattest + 1, -fattest, top, most, low} {
		tree, err := New(fat)
		asks(t, fmt.Sprint("New ", fat), err, api.ErrRange)
		if tree != nil {
			t.Errorf("New(%d) is a tree beside an error", fat)
		}
	}
	for _, fat := range []int{0, 1, one, fattest - 1, fattest} {
		tree := made(t, fat)
		same(t, tree, model{})
		asks(t, "Remove", tree.Remove(0), api.ErrMissing)
		same(t, tree, model{})
	}
}

// A Tree's zero value is empty, and may be put into.
func TestZeroValue(t *testing.T) {
	var tree Tree
	same(t, &tree, model{})
	asks(t, "Remove", tree.Remove(1), api.ErrMissing)
	puts(t, &tree, 1, box(0, 0, 0, 1, 1, 1))
	same(t, &tree, model{1: box(0, 0, 0, 1, 1, 1)})
}

// Promise 3.1: no box, one box, two, three, by numbers told one by one.
func TestFewBoxes(t *testing.T) {
	tree := made(t, one)
	all := box(-top, -top, -top, top, top, top)
	for _, c := range []struct {
		id    int
		b     geom.Box
		query []int
		pairs [][2]int
		high  []int // which heights may be
	}{
		{9, box(0, 0, 0, 10, 10, 10), []int{9}, nil, []int{0}},
		{4, box(5, 5, 5, 20, 20, 20), []int{4, 9}, [][2]int{{4, 9}}, []int{1}},
		{7, box(20, 20, 20, 30, 30, 30), []int{4, 7, 9}, [][2]int{{4, 7}, {4, 9}}, []int{2}},
		{-2, box(0, 0, 0, 30, 30, 30), []int{-2, 4, 7, 9}, [][2]int{{-2, 4}, {-2, 7}, {-2, 9}, {4, 7}, {4, 9}}, []int{2, 3}},
	} {
		puts(t, tree, c.id, c.b)
		if got := tree.Query(all); !slices.Equal(got, c.query) {
			t.Errorf("behind %d: Query = %v, want %v", c.id, got, c.query)
		}
		if got := tree.Pairs(); !slices.Equal(got, c.pairs) {
			t.Errorf("behind %d: Pairs = %v, want %v", c.id, got, c.pairs)
		}
		if got := tree.High(); !slices.Contains(c.high, got) {
			t.Errorf("behind %d: High = %d, want one of %v", c.id, got, c.high)
		}
		if got := tree.Many(); got != len(c.query) {
			t.Errorf("behind %d: Many = %d", c.id, got)
		}
	}
}

// Promise 3.1: boxes that meet in a side, an edge or a corner alone meet; those that are 1 apart don't, however fat the tree is.
func TestEdgesOfBoxes(t *testing.T) {
	middle := box(0, 0, 0, 10, 10, 10)
	for _, fat := range []int{0, 1, one, fattest} {
		for _, c := range []struct {
			b     geom.Box
			meets bool
		}{
			{box(10, 0, 0, 20, 10, 10), true},
			{box(11, 0, 0, 20, 10, 10), false},
			{box(-5, 2, 2, 0, 3, 3), true},
			{box(-5, 2, 2, -1, 3, 3), false},
			{box(10, 10, 0, 20, 20, 5), true},
			{box(10, 11, 0, 20, 20, 5), false},
			{box(10, 10, 10, 10, 10, 10), true},
			{box(11, 10, 10, 11, 10, 10), false},
			{box(0, 0, 0, 0, 0, 0), true},
			{box(-1, 0, 0, -1, 0, 0), false},
			{box(5, 5, 5, 5, 5, 5), true},
			{box(5, -9, 5, 5, 99, 5), true},
			{box(-top, -top, -top, top, top, top), true},
			{box(top, 0, 0, top, 0, 0), false},
		} {
			for _, b := range turns(c.b) {
				tree, m := made(t, fat), model{1: middle, 2: b}
				puts(t, tree, 2, b)
				puts(t, tree, 1, middle)
				if got := len(tree.Pairs()) == 1; got != c.meets {
					t.Errorf("fat %d: %v and %v meet: %v", fat, middle, b, got)
				}
				if got := len(tree.Query(b)) == 2; got != c.meets {
					t.Errorf("fat %d: of %v Query tells %v", fat, b, tree.Query(b))
				}
				same(t, tree, m)
			}
		}
	}
}

// Promise 3.1: boxes without a size meet those at the same place alone.
func TestPoints(t *testing.T) {
	tree, m := made(t, fattest), model{}
	for i, v := range []api.Vec{vec(0, 0, 0), vec(1, 0, 0), vec(0, 0, 0), vec(0, 1, 0), vec(0, 0, 1), vec(0, 0, 1)} {
		m.put(i, cube(v, 0))
		puts(t, tree, i, cube(v, 0))
	}
	same(t, tree, m, cube(vec(1, 0, 0), 0), cube(vec(1, 1, 0), 0))
	if got, want := tree.Pairs(), [][2]int{{0, 2}, {4, 5}}; !slices.Equal(got, want) {
		t.Errorf("Pairs = %v, want %v", got, want)
	}
}

// Promise 3.1: boxes at -Top and Top, whose fat would reach beyond.
func TestEndsOfTheWorld(t *testing.T) {
	for _, fat := range []int{0, 1, fattest} {
		tree, m := made(t, fat), model{}
		for _, b := range []geom.Box{
			cube(vec(-top, -top, -top), 0),
			cube(vec(top, top, top), 0),
			cube(vec(-top, -top, -top), 2*top),
			cube(vec(top-1, top-1, top-1), 1),
			box(-top, top, -top, -top, top, -top),
			box(-top, -top, 0, top, -top, 0),
			box(top, -top, -top, top, top, top),
			cube(vec(0, 0, 0), top),
		} {
			m.put(len(m), b)
			puts(t, tree, len(m)-1, b)
			same(t, tree, m)
		}
		for id, b := range m {
			puts(t, tree, id, b)
		}
		same(t, tree, m)
	}
}

// Promise 3.1: Query asks by the words of 2.1's Meet: of boxes beyond Top, and of those that are inside out, too.
func TestQueryOfAnything(t *testing.T) {
	d := die(11)
	tree, m := made(t, one), model{}
	for i := range 40 {
		b := d.box()
		m.put(i, b)
		puts(t, tree, i, b)
	}
	n := []int{0, 1, -1, one, -one, 3 * one, top, -top, top + 1, -top - 1, most, low}
	number := func() int { return n[d.upTo(len(n))] }
	var asked []geom.Box
	for range 4000 {
		asked = append(asked, box(number(), number(), number(), number(), number(), number()))
	}
	same(t, tree, m, asked...)
	same(t, tree, m, box(low, low, low, most, most, most), box(most, most, most, low, low, low), box(9*one, 9*one, 9*one, -9*one, -9*one, -9*one))
	inside, turned := box(0, 0, 0, 10, 10, 10), box(6, 6, 6, 4, 4, 4)
	tree = made(t, one)
	puts(t, tree, 3, inside)
	if got := tree.Query(turned); !slices.Equal(got, []int{3}) {
		t.Errorf("Query(%v) = %v", turned, got)
	}
}

// Promise 3.1: wrong boxes: Low above High, parts beyond Top, both at once: the error told first, and nothing is changed, whether the number is there or not.
func TestWrongBoxes(t *testing.T) {
	wrongs := []struct {
		b    geom.Box
		want api.Errno
	}{
		{box(1, 0, 0, 0, 0, 0), api.ErrArg},
		{box(top, 0, 0, -top, 0, 0), api.ErrArg},
		{box(most, 0, 0, low, 0, 0), api.ErrArg},
		{box(0, 0, 0, top+1, 0, 0), api.ErrRange},
		{box(top+1, 0, 0, top+1, 0, 0), api.ErrRange},
		{box(-top-1, 0, 0, 0, 0, 0), api.ErrRange},
		{box(-top-1, 0, 0, -top-1, 0, 0), api.ErrRange},
		{box(low, 0, 0, most, 0, 0), api.ErrRange},
		{box(low, low, low, low, low, low), api.ErrRange},
		{box(most, most, most, most, most, most), api.ErrRange},
		{box(top+1, 0, 0, 0, 0, 0), api.ErrArg},
		{box(0, 0, 0, -top-1, 0, 0), api.ErrArg},
		{box(top+1, 1, 0, top+1, 0, 0), api.ErrArg},
		{box(-top-1, 0, 1, 0, 0, 0), api.ErrArg},
		{box(top+2, 0, 0, top+1, 0, 0), api.ErrArg},
	}
	for _, many := range []int{0, 1, 2, 10, bodies} {
		d := die(many)
		tree, m := made(t, one), model{}
		for i := range many {
			b := d.box()
			m.put(i, b)
			puts(t, tree, i, b)
		}
		for _, c := range wrongs {
			for _, b := range turns(c.b) {
				for _, id := range []int{0, many - 1, many, most, low} {
					asks(t, fmt.Sprint("Put ", id, b), tree.Put(id, b), c.want)
				}
				if got, want := tree.Query(b), m.query(b); !slices.Equal(got, want) {
					t.Errorf("Query(%v) = %v, want %v", b, got, want)
				}
			}
		}
		same(t, tree, m)
	}
}

// Promise 3.1: the MaxBodies-th box, the one behind it, and one of a number that is there already.
func TestLimit(t *testing.T) {
	d := die(4)
	tree, m := made(t, one/2), model{}
	for i := range bodies {
		b := d.box()
		m.put(i*3, b)
		puts(t, tree, i*3, b)
	}
	same(t, tree, m)
	for _, id := range []int{1, -3, bodies * 3, most, low} {
		asks(t, "Put behind the last one", tree.Put(id, geom.Box{}), api.ErrLimit)
		asks(t, "Remove of what was not put", tree.Remove(id), api.ErrMissing)
	}
	same(t, tree, m)
	for i := range bodies {
		b := d.box()
		m.put(i*3, b)
		puts(t, tree, i*3, b)
	}
	same(t, tree, m)
	asks(t, "Remove", tree.Remove(30), api.OK)
	m.remove(30)
	m.put(1, geom.Box{})
	puts(t, tree, 1, geom.Box{})
	same(t, tree, m)
	asks(t, "Put of one that has gone", tree.Put(30, geom.Box{}), api.ErrLimit)
	same(t, tree, m)
}

// Promise 3.1: Remove: what is not there, what is there no more; what is put again is there again.
func TestRemove(t *testing.T) {
	d := die(5)
	tree, m := made(t, one), model{}
	for i := range 20 {
		b := d.box()
		m.put(i, b)
		puts(t, tree, i, b)
	}
	for _, id := range []int{-1, 20, most, low} {
		asks(t, "Remove", tree.Remove(id), api.ErrMissing)
	}
	same(t, tree, m)
	for i, id := range d.order(20) {
		asks(t, "Remove", tree.Remove(id), m.remove(id))
		asks(t, "Remove once more", tree.Remove(id), api.ErrMissing)
		same(t, tree, m)
		if i%3 == 0 {
			b := d.box()
			m.put(id, b)
			puts(t, tree, id, b)
			same(t, tree, m)
		}
	}
	for _, id := range m.ids() {
		asks(t, "Remove", tree.Remove(id), api.OK)
	}
	same(t, tree, model{})
	puts(t, tree, 3, geom.Box{})
	same(t, tree, model{3: {}})
}

// Promise 3.1: a box that is put anew is the new one alone, whether it moves little or far, grows or shrinks.
func TestPutAnew(t *testing.T) {
	for _, fat := range []int{0, 1, 5, one, fattest} {
		tree, m := made(t, fat), model{}
		for i := range 9 {
			m.put(i, cube(vec(20*i, 0, 0), 10))
			puts(t, tree, i, m[i])
		}
		for _, b := range []geom.Box{
			cube(vec(81, 0, 0), 10), cube(vec(85, 1, 0), 10), cube(vec(90, 0, 0), 10), cube(vec(70, 0, 0), 10), cube(vec(70, 0, 0), 10),
			cube(vec(0, 0, 0), 170), cube(vec(85, 3, 3), 1), cube(vec(85, 3, 3), 0), cube(vec(-top, 3, 3), 0), cube(vec(-top, -top, -top), 2*top), cube(vec(80, 0, 0), 10),
		} {
			was := m[4]
			m.put(4, b)
			puts(t, tree, 4, b)
			same(t, tree, m, was)
		}
	}
}

// Promise 3.1: any number may name a box; the answers rise by it.
func TestNumbers(t *testing.T) {
	ids := []int{0, most, -1, low, 1, 60, -60, low + 1, most - 1, 1 << 32, -1 << 32}
	tree, m := made(t, 1), model{}
	for _, id := range ids {
		m.put(id, geom.Box{})
		puts(t, tree, id, geom.Box{})
	}
	same(t, tree, m)
	want := []int{low, low + 1, -1 << 32, -60, -1, 0, 1, 60, 1 << 32, most - 1, most}
	if got := tree.Query(geom.Box{}); !slices.Equal(got, want) {
		t.Errorf("Query = %v, want %v", got, want)
	}
	if got := tree.Pairs(); len(got) != 55 || got[0] != [2]int{low, low + 1} || got[54] != [2]int{most - 1, most} {
		t.Errorf("Pairs = %v", got)
	}
}

// P4: what comes out is the caller's, and asking changes nothing.
func TestAnswersAreFresh(t *testing.T) {
	tree, m := made(t, one), model{}
	for i := range 30 {
		m.put(i, cube(vec(i, i, i), 5))
		puts(t, tree, i, m[i])
	}
	high := tree.High()
	ids, pairs := tree.Query(m[9]), tree.Pairs()
	for i := range ids {
		ids[i] = -9
	}
	for i := range pairs {
		pairs[i] = [2]int{-9, -9}
	}
	_, _ = append(ids, -9), append(pairs, [2]int{})
	same(t, tree, m)
	if tree.High() != high {
		t.Errorf("High was %d, is %d", high, tree.High())
	}
}
