package geom

import (
	"math"
	"testing"

	"gyre/api"
)

const (
	one  = 65536
	top  = 70368744177664 // 2^46
	size = 3276800        // the greatest one that a shape may have
	most = math.MaxInt
	low  = math.MinInt
)

func vec(x, y, z int) api.Vec { return api.Vec{X: x, Y: y, Z: z} }

func box(x, y, z, u, v, w int) Box { return Box{Low: vec(x, y, z), High: vec(u, v, w)} }

func ball(r int) api.Shape { return api.Shape{Kind: api.Ball, Size: vec(r, 0, 0)} }

func block(x, y, z int) api.Shape { return api.Shape{Kind: api.Block, Size: vec(x, y, z)} }

// turns are a vector with X, Y and Z in each other's place: what holds in one direction is to hold in all of them.
func turns(v api.Vec) [3]api.Vec {
	return [3]api.Vec{v, vec(v.Z, v.X, v.Y), vec(v.Y, v.Z, v.X)}
}

func boxTurns(b Box) [3]Box {
	l, h := turns(b.Low), turns(b.High)
	return [3]Box{{l[0], h[0]}, {l[1], h[1]}, {l[2], h[2]}}
}

func numbers(v api.Vec) [3]int { return [3]int{v.X, v.Y, v.Z} }

// die tells numbers that look drawn, the same each time.
type die uint64

func (d *die) upTo(many int) int {
	*d = *d*6364136223846793005 + 1442695040888963407
	return int(uint64(*d>>33) % uint64(many))
}

// number is one at an edge, an ordinary one, or one at the end of what there is.
func (d *die) number() int {
	edges := []int{0, 1, -1, 255, 256, one, -one, size, -size, top - 1, top, -top, top + 1, -top - 1, top + 5, most, low, low + 1}
	switch d.upTo(3) {
	case 0:
		return edges[d.upTo(len(edges))]
	case 1:
		return d.upTo(9) - 4
	}
	return d.upTo(8*one) - 4*one
}

func (d *die) vec() api.Vec { return vec(d.number(), d.number(), d.number()) }

func (d *die) box() Box { return Box{Low: d.vec(), High: d.vec()} }

// Promise 2.1: Right.
func TestRight(t *testing.T) {
	right := []int{1, 2, one, size - 1, size}
	wrong := []int{0, -1, size + 1, -size, top, top + 1, most, low}
	for _, n := range right {
		if !Right(ball(n)) || !Right(block(n, 1, size)) || !Right(block(size, n, 1)) || !Right(block(1, size, n)) {
			t.Errorf("size %d is not right", n)
		}
		for _, m := range append(wrong[1:], right...) {
			for _, v := range []api.Vec{vec(n, m, 0), vec(n, 0, m), vec(n, m, m)} {
				if Right(api.Shape{Kind: api.Ball, Size: v}) {
					t.Errorf("a Ball of %v is right", v)
				}
			}
		}
	}
	for _, n := range wrong {
		if Right(ball(n)) {
			t.Errorf("a Ball of %d is right", n)
		}
		for _, v := range turns(vec(n, one, one)) {
			if Right(api.Shape{Kind: api.Block, Size: v}) {
				t.Errorf("a Block of %v is right", v)
			}
		}
	}
	if Right(block(0, 0, 0)) || Right(block(one, 0, 0)) || Right(ball(0)) {
		t.Error("a shape without a size is right")
	}
	for _, kind := range []int{0, 3, -1, most, low} {
		if Right(api.Shape{Kind: kind, Size: vec(one, 0, 0)}) || Right(api.Shape{Kind: kind, Size: vec(one, one, one)}) {
			t.Errorf("kind %d is right", kind)
		}
	}
}

// Promise 2.1: Around, half of a Ball and of all others, numbers beyond Top cut.
func TestAround(t *testing.T) {
	for _, c := range []struct {
		s    api.Shape
		at   api.Vec
		want Box
	}{
		{ball(5), vec(10, 20, -30), box(5, 15, -35, 15, 25, -25)},
		{block(1, 2, 3), vec(10, 20, -30), box(9, 18, -33, 11, 22, -27)},
		{ball(size), vec(0, 0, 0), box(-size, -size, -size, size, size, size)},
		{block(size, 1, one), vec(one, 0, 0), box(one-size, -1, -one, one+size, 1, one)},
		// A Ball's Y and Z do not count; of what is neither Ball nor Block all three do.
		{api.Shape{Kind: api.Ball, Size: vec(5, 6, 7)}, vec(0, 0, 0), box(-5, -5, -5, 5, 5, 5)},
		{api.Shape{Kind: 0, Size: vec(5, 6, 7)}, vec(0, 0, 0), box(-5, -6, -7, 5, 6, 7)},
		{api.Shape{Kind: 3, Size: vec(5, 0, 0)}, vec(1, 1, 1), box(-4, 1, 1, 6, 1, 1)},
		{api.Shape{}, vec(1, 2, 3), box(1, 2, 3, 1, 2, 3)},
		{ball(-2), vec(0, 0, 0), box(2, 2, 2, -2, -2, -2)},
		{ball(3), vec(top, -top, top-1), box(top-3, -top, top-4, top, 3-top, top)},
		{ball(3), vec(most, low, top+9), box(top-3, -top, top-3, top, 3-top, top)},
		{block(most, low, top), vec(0, 0, one), box(-top, top, one-top, top, -top, top)},
	} {
		if got := Around(c.s, c.at); got != c.want {
			t.Errorf("Around(%v, %v) = %v, want %v", c.s, c.at, got, c.want)
		}
	}
}

// Promise 2.1: Meet, in each direction; sides and corners alone are enough.
func TestMeet(t *testing.T) {
	mid := box(0, 0, 0, 10, 10, 10)
	for _, c := range []struct {
		b    Box
		want bool
	}{
		{box(2, 2, 2, 8, 8, 8), true}, {mid, true}, {box(-1, -1, -1, 11, 11, 11), true}, {box(5, 5, 5, 15, 15, 15), true},
		{box(10, 0, 0, 20, 10, 10), true}, {box(11, 0, 0, 20, 10, 10), false},
		{box(-9, 0, 0, 0, 10, 10), true}, {box(-9, 0, 0, -1, 10, 10), false},
		{box(10, 10, 10, 20, 20, 20), true}, {box(10, 10, 11, 20, 20, 20), false}, {box(-5, -5, -5, 0, 0, 0), true},
		{box(5, 5, 5, 5, 5, 5), true}, {box(10, 0, 10, 10, 0, 10), true}, {box(10, 0, 11, 10, 0, 11), false},
		{box(top+1, 0, 0, most, 10, 10), false}, {box(low, low, low, most, most, most), true},
		{box(low, 0, 0, -1, 10, 10), false},
		// Inside out: each Low is still held against the other one's High.
		{box(8, 8, 8, 2, 2, 2), true}, {box(11, 8, 8, 2, 2, 2), false}, {box(8, 8, 8, -1, 2, 2), false},
	} {
		for i, b := range boxTurns(c.b) {
			if Meet(mid, b) != c.want || Meet(b, mid) != c.want {
				t.Errorf("Meet of %v and %v (turn %d) = %t, %t, want %t", mid, b, i, Meet(mid, b), Meet(b, mid), c.want)
			}
		}
	}
	// Numbers beyond Top are held against each other as they are.
	if Meet(box(top+1, 0, 0, top+2, 0, 0), box(top+3, 0, 0, top+4, 0, 0)) {
		t.Error("boxes beyond Top meet")
	}
}

// Promise 2.1: Within, in each direction; the same sides are within.
func TestWithin(t *testing.T) {
	mid := box(0, 0, 0, 10, 10, 10)
	for _, c := range []struct {
		a    Box
		want bool
	}{
		{mid, true}, {box(1, 1, 1, 9, 9, 9), true}, {box(0, 1, 2, 10, 9, 8), true}, {box(5, 5, 5, 5, 5, 5), true},
		{box(-1, 0, 0, 10, 10, 10), false}, {box(0, 0, 0, 11, 10, 10), false}, {box(-1, -1, -1, 11, 11, 11), false},
		{box(20, 0, 0, 30, 10, 10), false}, {box(low, 0, 0, 5, 5, 5), false}, {box(5, 5, 5, most, 5, 5), false},
		// Inside out: Low is held against Low and High against High, nothing else.
		{box(20, 20, 20, -5, -5, -5), true}, {box(most, 0, 0, low, 10, 10), true},
	} {
		for i, a := range boxTurns(c.a) {
			if got := Within(a, mid); got != c.want {
				t.Errorf("Within(%v, %v) (turn %d) = %t, want %t", a, mid, i, got, c.want)
			}
		}
	}
	if !Within(box(0, 0, 0, top+1, 0, 0), box(0, 0, 0, top+1, 0, 0)) || Within(box(0, 0, 0, top+2, 0, 0), box(0, 0, 0, top+1, 0, 0)) {
		t.Error("numbers beyond Top are cut")
	}
}

// Promise 2.1: Both.
func TestBoth(t *testing.T) {
	for _, c := range []struct{ a, b, want Box }{
		{box(0, 0, 0, 1, 1, 1), box(5, 5, 5, 6, 6, 6), box(0, 0, 0, 6, 6, 6)},
		{box(0, 7, -3, 1, 8, -2), box(-5, 9, -9, 6, 10, 6), box(-5, 7, -9, 6, 10, 6)},
		{box(1, 2, 3, 4, 5, 6), box(2, 3, 4, 3, 4, 5), box(1, 2, 3, 4, 5, 6)},
		{box(1, 2, 3, 4, 5, 6), box(1, 2, 3, 4, 5, 6), box(1, 2, 3, 4, 5, 6)},
		{box(9, 0, 0, 1, 0, 0), box(5, 0, 0, -5, 0, 0), box(5, 0, 0, 1, 0, 0)},
		{box(top+1, low, 0, top+2, 0, most), box(top+3, 0, -1, top+5, 0, 0), box(top+1, low, -1, top+5, 0, most)},
	} {
		if got := Both(c.a, c.b); got != c.want {
			t.Errorf("Both(%v, %v) = %v, want %v", c.a, c.b, got, c.want)
		}
		if got := Both(c.b, c.a); got != c.want {
			t.Errorf("Both(%v, %v) = %v, want %v", c.b, c.a, got, c.want)
		}
	}
}

// Promise 2.1: Fat, also by less than 0, and beyond Top.
func TestFat(t *testing.T) {
	for _, c := range []struct {
		a    Box
		by   int
		want Box
	}{
		{box(0, 1, 2, 10, 11, 12), 3, box(-3, -2, -1, 13, 14, 15)},
		{box(0, 1, 2, 10, 11, 12), 0, box(0, 1, 2, 10, 11, 12)},
		{box(0, 1, 2, 10, 11, 12), -3, box(3, 4, 5, 7, 8, 9)},
		{box(0, 0, 0, 1, 1, 1), -5, box(5, 5, 5, -4, -4, -4)},
		{box(-top, 0, 1-top, top, top-1, 0), 2, box(-top, -2, -top, top, top, 2)},
		{box(low, 0, 0, most, 0, 0), 0, box(-top, 0, 0, top, 0, 0)},
		{box(low, top, 0, most, -top, 0), 1, box(-top, top-1, -1, top, 1-top, 1)},
		{box(1, 1, 1, -1, -1, -1), most, box(1-top, 1-top, 1-top, top-1, top-1, top-1)},
		{box(1, 1, 1, -1, -1, -1), low, box(top, top, top, -top, -top, -top)},
	} {
		if got := Fat(c.a, c.by); got != c.want {
			t.Errorf("Fat(%v, %d) = %v, want %v", c.a, c.by, got, c.want)
		}
	}
}

// Promise 2.1: Near: High's part, then Low's, nothing cut.
func TestNear(t *testing.T) {
	b := box(0, 10, -20, 5, 15, -10)
	for _, c := range []struct {
		b       Box
		p, want api.Vec
	}{
		{b, vec(3, 12, -15), vec(3, 12, -15)}, {b, vec(0, 10, -20), vec(0, 10, -20)}, {b, vec(5, 15, -10), vec(5, 15, -10)},
		{b, vec(6, 16, -9), vec(5, 15, -10)}, {b, vec(-1, 9, -21), vec(0, 10, -20)}, {b, vec(-9, 12, 0), vec(0, 12, -10)},
		{b, vec(most, low, 0), vec(5, 10, -10)},
		// Inside out: Low has the last word.
		{box(5, 5, 5, 1, 1, 1), vec(0, 3, 9), vec(5, 5, 5)},
		{box(top+1, low, low, top+9, most, most), vec(top+5, top+7, low+1), vec(top+5, top+7, low+1)},
		{box(top+1, -top-9, 0, top+9, -top-3, 0), vec(0, 0, 0), vec(top+1, -top-3, 0)},
	} {
		if got := Near(c.b, c.p); got != c.want {
			t.Errorf("Near(%v, %v) = %v, want %v", c.b, c.p, got, c.want)
		}
	}
}

// Promise 2.1: what the boxes' functions have to do with each other, of boxes of all kinds.
func TestBoxesAgree(t *testing.T) {
	d := die(7)
	for range 20_000 {
		a, b, p := d.box(), d.box(), d.vec()
		meet, within := true, true
		for i := range 3 {
			al, ah, bl, bh := numbers(a.Low)[i], numbers(a.High)[i], numbers(b.Low)[i], numbers(b.High)[i]
			meet = meet && !(al > bh) && !(bl > ah)
			within = within && !(al < bl) && !(ah > bh)
		}
		if Meet(a, b) != meet || Meet(b, a) != meet || Within(a, b) != within {
			t.Fatalf("%v, %v: Meet %t, %t, want %t; Within %t, want %t", a, b, Meet(a, b), Meet(b, a), meet, Within(a, b), within)
		}
		if c := Both(a, b); !Within(a, c) || !Within(b, c) || Both(c, a) != c {
			t.Fatalf("%v, %v: Both %v", a, b, c)
		}
		if c := Both(a, Box{a.High, a.Low}); !Within(Box{Near(c, p), Near(c, p)}, c) || Near(c, Near(c, p)) != Near(c, p) {
			t.Fatalf("%v, %v: Near %v", c, p, Near(c, p))
		}
	}
}
