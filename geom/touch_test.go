package geom

import (
	"math/big"
	"testing"

	"gyre/api"
)

// touch is what Touches answers.
type touch struct {
	way  api.Vec
	deep int
	ok   bool
}

func touches(a api.Shape, p api.Vec, b api.Shape, q api.Vec) touch {
	way, deep, ok := Touches(a, p, b, q)
	return touch{way, deep, ok}
}

func at(x, y, z, deep int) touch { return touch{vec(x, y, z), deep, true} }

type touchCase struct {
	a    api.Shape
	p    api.Vec
	b    api.Shape
	q    api.Vec
	want touch
}

func checkTouches(t *testing.T, l []touchCase) {
	t.Helper()
	for _, c := range l {
		if got := touches(c.a, c.p, c.b, c.q); got != c.want {
			t.Errorf("Touches(%v, %v, %v, %v) = %v, want %v", c.a, c.p, c.b, c.q, got, c.want)
		}
	}
}

// Promise 2.2: two Balls.
func TestTwoBalls(t *testing.T) {
	o := vec(0, 0, 0)
	checkTouches(t, []touchCase{
		{ball(one), o, ball(one), vec(one, 0, 0), at(one, 0, 0, one)},
		{ball(one), vec(5, 5, 5), ball(one), vec(5, 5-one, 5), at(0, -one, 0, one)},
		{ball(3 * one), o, ball(4 * one), vec(3*one, 4*one, 0), at(39321, 52428, 0, 2*one)},
		{ball(3 * one), vec(3*one, 4*one, 0), ball(4 * one), o, at(-39321, -52428, 0, 2*one)},
		// By 0 they don't; by 1 they do.
		{ball(one), o, ball(one), vec(2*one, 0, 0), touch{}},
		{ball(one), o, ball(one), vec(0, 0, 2*one+1), touch{}},
		{ball(one), o, ball(one + 1), vec(2*one, 0, 0), at(one, 0, 0, 1)},
		{ball(one), o, ball(one), vec(0, 2*one-1, 0), at(0, one, 0, 2)}, // a length is rounded down
		// The same middle, and one that is so near that its length is 0.
		{ball(one), o, ball(2 * one), o, at(0, one, 0, 3*one)},
		{ball(one), vec(7, 8, 9), ball(one), vec(7, 8, 9), at(0, one, 0, 2*one)},
		{ball(one), o, ball(one), vec(200, -200, 0), at(0, one, 0, 2*one)},
		{ball(one), o, ball(one), vec(256, 0, 0), at(one, 0, 0, 2*one-256)},
		// The least and the greatest sizes.
		{ball(1), o, ball(1), o, at(0, one, 0, 2)},
		{ball(1), o, ball(1), vec(255, 0, 0), at(0, one, 0, 2)},
		{ball(1), o, ball(1), vec(256, 0, 0), touch{}},
		{ball(size), o, ball(size), vec(0, 0, 99*one), at(0, 0, one, one)},
		{ball(size), o, ball(size), vec(100*one, 0, 0), touch{}},
		// Numbers beyond Top are cut: these are in one place.
		{ball(one), vec(top, 0, 0), ball(one), vec(most, 0, 0), at(0, one, 0, 2*one)},
		{ball(one), vec(top+one, low, 0), ball(one), vec(top, -top, one), at(0, 0, one, one)},
		{ball(size), vec(-top, 0, 0), ball(size), vec(top, 0, 0), touch{}},
	})
}

// Promise 2.2: a Ball and a Block that is beside it.
func TestBallBesideBlock(t *testing.T) {
	o, b := vec(0, 0, 0), block(one, 2*one, 3*one)
	checkTouches(t, []touchCase{
		{ball(one), vec(-2*one+1, 0, 0), b, o, at(one+1, 0, 0, 2)}, // a length is rounded down, so that the way is a little longer
		{ball(2 * one), vec(-2*one, 0, 0), b, o, at(one, 0, 0, one)},
		{ball(2 * one), vec(2*one, 0, 0), b, o, at(-one, 0, 0, one)},
		{ball(2 * one), vec(one/2, 3*one, -one), b, o, at(0, -one, 0, one)},
		{ball(2 * one), vec(9, 9, 9+4*one), b, vec(9, 9, 9), at(0, 0, -one, one)},
		// By 0 they don't, though their boxes meet.
		{ball(one), vec(2*one, 0, 0), b, o, touch{}},
		{ball(one), vec(2*one+1, 0, 0), b, o, touch{}},
		{ball(one + 1), vec(2*one, 0, 0), b, o, at(-one, 0, 0, 1)},
		// At an edge and at a corner it is the length that counts.
		{ball(5*one + 1), vec(4*one, 6*one, 0), b, o, at(-39321, -52428, 0, 1)},
		{ball(5 * one), vec(4*one, 6*one, 0), b, o, touch{}},
		{ball(8 * one), vec(3*one, 5*one, 9*one), b, o, at(-18724, -28086, -56173, one)},
		{ball(7 * one), vec(3*one, 5*one, 9*one), b, o, touch{}},
		// So near that the length is 0: it is not in the Block, and has no way of its own.
		{ball(one), vec(one+200, 0, 0), b, o, at(0, one, 0, one)},
		{ball(1), vec(one+255, 2*one+255, 0), b, o, at(0, one, 0, 1)},
		{ball(1), vec(one+256, 0, 0), b, o, touch{}},
		// The greatest sizes, and numbers beyond Top.
		{ball(size), vec(99*one, 0, 0), block(size, size, size), o, at(-one, 0, 0, one)},
		{ball(size), vec(100*one, 0, 0), block(size, size, size), o, touch{}},
		{ball(one), vec(most, 0, 0), block(one, one, one), vec(top-3*one/2, 0, 0), at(-one, 0, 0, one/2)},
		{ball(one), vec(low, 0, 0), block(one, one, one), vec(3*one/2-top, 0, 0), at(one, 0, 0, one/2)},
	})
}

// Promise 2.2: a Ball whose middle is in a Block, at its sides too.
func TestBallInBlock(t *testing.T) {
	o, b := vec(0, 0, 0), block(2*one, 3*one, 4*one)
	checkTouches(t, []touchCase{
		{ball(one), vec(-one, 0, 0), b, o, at(one, 0, 0, 2*one)},
		{ball(one), vec(one, 0, 0), b, o, at(-one, 0, 0, 2*one)},
		{ball(one), vec(0, -2*one, 0), b, o, at(0, one, 0, 2*one)},
		{ball(one), vec(0, 2*one, 0), b, o, at(0, -one, 0, 2*one)},
		{ball(one), vec(0, 0, -3*one), b, o, at(0, 0, one, 2*one)},
		{ball(5), vec(0, 0, 3*one), b, o, at(0, 0, -one, one+5)},
		// On a side the way out is 0: deep is the size alone.
		{ball(one), vec(-2*one, 0, 0), b, o, at(one, 0, 0, one)},
		{ball(one), vec(0, 0, 4*one), b, o, at(0, 0, -one, one)},
		{ball(1), vec(2*one, 3*one, 4*one), b, o, at(-one, 0, 0, 1)},
		// Ways out that are as short: the first one of X, -X, Y, -Y, Z, -Z.
		{ball(one), o, b, o, at(one, 0, 0, 3*one)},
		{ball(one), vec(0, one, 0), b, o, at(one, 0, 0, 3*one)},
		{ball(one), vec(0, 2*one, 3*one), b, o, at(0, -one, 0, 2*one)},
		{ball(one), vec(one, 2*one, -3*one), b, o, at(-one, 0, 0, 2*one)},
		{ball(one), vec(7, 7, 7), block(3*one, one, one), vec(7, 7, 7), at(0, one, 0, 2*one)},
		{ball(one), vec(7, 7, 7), block(3*one, 3*one, one), vec(7, 7, 7), at(0, 0, one, 2*one)},
		{ball(1), o, block(1, 1, 1), o, at(one, 0, 0, 2)},
		{ball(size), o, block(size, size, size), o, at(one, 0, 0, 2*size)},
		// Beyond Top the Block has no more than a side, and the Ball is on it.
		{ball(one), vec(top+9, 0, 0), block(one, one, one), vec(top, 0, 0), at(-one, 0, 0, one)},
		{ball(one), vec(low, 0, 0), block(one, one, one), vec(low, 0, 0), at(one, 0, 0, one)},
	})
}

// Promise 2.2: a Block and a Ball: the way turned round, of each kind of touch.
func TestBlockAndBall(t *testing.T) {
	o, b := vec(0, 0, 0), block(2*one, 3*one, 4*one)
	checkTouches(t, []touchCase{
		{b, o, ball(2 * one), vec(3*one, 0, 0), at(one, 0, 0, one)},
		{b, o, ball(2 * one), vec(0, -4*one, 0), at(0, -one, 0, one)},
		{b, o, ball(one), vec(3*one, 0, 0), touch{}},
		{b, o, ball(one), o, at(-one, 0, 0, 3*one)},
		{b, o, ball(one), vec(0, 2*one, 3*one), at(0, one, 0, 2*one)},
		{b, o, ball(one), vec(2*one+100, 0, 0), at(0, -one, 0, one)},
		{b, vec(5, 6, 7), ball(one), vec(5, 6, 7+4*one), at(0, 0, one, one)},
	})
}

// Promise 2.2: two Blocks.
func TestTwoBlocks(t *testing.T) {
	o, a, b := vec(0, 0, 0), block(one, 2*one, 3*one), block(2*one, 3*one, 4*one)
	checkTouches(t, []touchCase{
		{a, o, b, vec(2*one, 0, 0), at(one, 0, 0, one)},
		{a, o, b, vec(-2*one, 0, 0), at(-one, 0, 0, one)},
		{a, o, b, vec(0, 4*one, 0), at(0, one, 0, one)},
		{a, o, b, vec(0, -4*one, 0), at(0, -one, 0, one)},
		{a, o, b, vec(0, 0, 6*one), at(0, 0, one, one)},
		{a, o, b, vec(0, 0, -6*one), at(0, 0, -one, one)},
		{a, vec(3, 4, 5), b, vec(3, 4, 6-7*one), at(0, 0, -one, 1)},
		// In a side, an edge or a corner alone: the way out is 0.
		{a, o, b, vec(3*one, 0, 0), touch{}},
		{a, o, b, vec(0, -5*one, 0), touch{}},
		{a, o, b, vec(2*one, 0, 7*one), touch{}},
		{a, o, b, vec(3*one, 5*one, 7*one), touch{}},
		{a, o, b, vec(3*one-1, 0, 0), at(one, 0, 0, 1)},
		{a, o, b, vec(3*one+1, 0, 0), touch{}},
		{a, o, b, vec(0, 6*one, 0), touch{}},
		{a, o, b, vec(0, 0, -8*one), touch{}},
		// Ways out that are as short.
		{a, o, b, o, at(one, 0, 0, 3*one)},
		{block(3*one, one, one), o, block(3*one, one, one), o, at(0, one, 0, 2*one)},
		{block(3*one, 3*one, one), o, block(3*one, one, one), o, at(0, 0, one, 2*one)},
		{a, o, b, vec(-2*one, -4*one, 0), at(-one, 0, 0, one)},
		{a, o, b, vec(0, -4*one, 6*one), at(0, -one, 0, one)},
		{a, o, b, vec(2*one, 4*one, 6*one), at(one, 0, 0, one)},
		// One in the other: out is far, not only how much they share.
		{block(one, one, one), o, block(9*one, 8*one, 7*one), vec(0, 0, one), at(0, 0, one, 7*one)},
		{block(1, 1, 1), o, block(1, 1, 1), vec(1, 0, 0), at(one, 0, 0, 1)},
		{block(1, 1, 1), o, block(1, 1, 1), vec(2, 0, 0), touch{}},
		{block(size, size, size), o, block(size, size, size), vec(0, 1, 0), at(0, one, 0, 2*size-1)},
		// Beyond Top the boxes are cut.
		{a, vec(most, 0, 0), b, vec(top+5, 0, 0), at(-one, 0, 0, one)},
		{a, vec(top, 0, 0), b, vec(top-2*one, 0, 0), at(-one, 0, 0, one)},
		{a, vec(low, 0, 0), b, vec(2*one-top, 0, 0), at(one, 0, 0, one)},
	})
}

func bigCut(n *big.Int) int {
	if n.CmpAbs(big.NewInt(top)) > 0 {
		return n.Sign() * top
	}
	return int(n.Int64())
}

func bigOf(n int) *big.Int { return big.NewInt(int64(bigCut(big.NewInt(int64(n))))) }

func sub(a, b int) int { return bigCut(new(big.Int).Sub(bigOf(a), bigOf(b))) }

func add(a, b int) int { return bigCut(new(big.Int).Add(bigOf(a), bigOf(b))) }

// long is a length, worked out without bounds: each square is rounded and cut, each sum is cut.
func long(v [3]int) int {
	sum := 0
	for _, n := range v {
		square := new(big.Int).Mul(bigOf(n), bigOf(n))
		sum = add(sum, bigCut(square.Quo(square, big.NewInt(one))))
	}
	n := new(big.Int).Mul(big.NewInt(int64(sum)), big.NewInt(one))
	return int(n.Sqrt(n).Int64())
}

func unit(v [3]int) api.Vec {
	l := long(v)
	if l == 0 {
		return vec(0, one, 0)
	}
	var u [3]int
	for i, n := range v {
		m := new(big.Int).Mul(big.NewInt(int64(n)), big.NewInt(one))
		u[i] = bigCut(m.Quo(m, big.NewInt(int64(l))))
	}
	return vec(u[0], u[1], u[2])
}

// corners are a box's, by direction.
type corners struct{ low, high [3]int }

func cornersOf(s api.Shape, p api.Vec) (c corners) {
	half, mid := numbers(s.Size), numbers(p)
	for i := range 3 {
		h := half[i]
		if s.Kind == api.Ball {
			h = half[0]
		}
		c.low[i], c.high[i] = sub(mid[i], h), add(mid[i], h)
	}
	return c
}

// shortest goes through the six ways out in the document's order.
func shortest(a, b corners) touch {
	best := touch{deep: most}
	for i := range 3 {
		var way [3]int
		if far := sub(a.high[i], b.low[i]); far < best.deep {
			way[i] = one
			best = at(way[0], way[1], way[2], far)
		}
		if far := sub(b.high[i], a.low[i]); far < best.deep {
			way[i] = -one
			best = at(way[0], way[1], way[2], far)
		}
	}
	return best
}

func asBalls(sizes int, v [3]int) touch {
	deep := sub(sizes, long(v))
	if deep <= 0 {
		return touch{}
	}
	return touch{unit(v), deep, true}
}

func asBallAndBlock(a api.Shape, p api.Vec, b api.Shape, q api.Vec) touch {
	c, mid := cornersOf(b, q), numbers(p)
	var v [3]int
	for i := range 3 {
		switch {
		case mid[i] > c.high[i]:
			v[i] = sub(c.high[i], mid[i])
		case mid[i] < c.low[i]:
			v[i] = sub(c.low[i], mid[i])
		}
	}
	if v != [3]int{} {
		return asBalls(a.Size.X, v)
	}
	o := shortest(corners{mid, mid}, c)
	o.deep = add(o.deep, a.Size.X)
	return o
}

func asBlocks(a, b corners) touch {
	for i := range 3 {
		if a.low[i] > b.high[i] || b.low[i] > a.high[i] {
			return touch{}
		}
	}
	if o := shortest(a, b); o.deep > 0 {
		return o
	}
	return touch{}
}

// document is 2.2, worked out another way.
func document(a api.Shape, p api.Vec, b api.Shape, q api.Vec) touch {
	switch {
	case a.Kind == api.Ball && b.Kind == api.Ball:
		from, to := numbers(p), numbers(q)
		return asBalls(add(a.Size.X, b.Size.X), [3]int{sub(to[0], from[0]), sub(to[1], from[1]), sub(to[2], from[2])})
	case a.Kind == api.Ball:
		return asBallAndBlock(a, p, b, q)
	case b.Kind == api.Ball:
		o := asBallAndBlock(b, q, a, p)
		o.way = vec(-o.way.X, -o.way.Y, -o.way.Z)
		return o
	}
	return asBlocks(cornersOf(a, p), cornersOf(b, q))
}

func (d *die) size() int {
	sizes := []int{1, 2, 255, 256, one / 2, one, 3 * one / 2, 2 * one, size - 1, size}
	if d.upTo(3) == 0 {
		return 1 + d.upTo(3*one)
	}
	return sizes[d.upTo(len(sizes))]
}

func (d *die) shape() api.Shape {
	if d.upTo(2) == 0 {
		return ball(d.size())
	}
	return block(d.size(), d.size(), d.size())
}

// beside is a place that is near another one: by halves, by a little, or just so far that sides meet.
func (d *die) beside(p api.Vec, a, b api.Shape) api.Vec {
	ha, hb := half(a), half(b)
	far := func(x, y int) int {
		switch d.upTo(5) {
		case 0:
			return 0
		case 1:
			return d.upTo(600) - 300
		case 2:
			return (x + y + d.upTo(3) - 1) * (1 - 2*d.upTo(2))
		case 3:
			return (d.upTo(9) - 4) * one / 2
		}
		return d.upTo(2*(x+y)+1) - x - y
	}
	v := vec(far(ha.X, hb.X), far(ha.Y, hb.Y), far(ha.Z, hb.Z))
	if p.X > top || p.X < -top || p.Y > top || p.Y < -top || p.Z > top || p.Z < -top {
		return d.vec()
	}
	return vec(p.X+v.X, p.Y+v.Y, p.Z+v.Z)
}

func (d *die) place() api.Vec {
	if d.upTo(4) == 0 {
		return d.vec()
	}
	return vec(d.upTo(4*one), d.upTo(4*one), d.upTo(4*one))
}

// Promise 2.2: Touches of shapes that are Right, held against the document, worked out another way; and who touches is touched, as deep.
func TestTouchesAsDocument(t *testing.T) {
	d := die(22)
	seen := map[string]int{}
	for range 60_000 {
		a, b, p := d.shape(), d.shape(), d.place()
		q := d.beside(p, a, b)
		got, want := touches(a, p, b, q), document(a, p, b, q)
		if got != want {
			t.Fatalf("Touches(%v, %v, %v, %v) = %v, want %v", a, p, b, q, got, want)
		}
		round := touches(b, q, a, p)
		if round.ok != got.ok || round.deep != got.deep {
			t.Fatalf("Touches(%v, %v, %v, %v) = %v, but turned round %v", a, p, b, q, got, round)
		}
		if a.Kind != b.Kind && round.way != vec(-got.way.X, -got.way.Y, -got.way.Z) {
			t.Fatalf("Touches(%v, %v, %v, %v): way %v, but turned round %v", a, p, b, q, got.way, round.way)
		}
		if got.ok {
			seen[string(rune('0'+a.Kind))+string(rune('0'+b.Kind))]++
		} else {
			seen["none"]++
		}
	}
	for _, k := range []string{"11", "12", "21", "22", "none"} {
		if seen[k] < 2000 {
			t.Errorf("too few of %s: %d", k, seen[k])
		}
	}
}

// Promises 2.2, P1: shapes that are not Right: it ends, without a panic, and what does not touch has no way.
func TestTouchesOfWrongShapes(t *testing.T) {
	d := die(5)
	kinds := []int{api.Ball, api.Block, 0, 3, -1, most, low}
	for range 20_000 {
		a := api.Shape{Kind: kinds[d.upTo(len(kinds))], Size: d.vec()}
		b := api.Shape{Kind: kinds[d.upTo(len(kinds))], Size: d.vec()}
		if got := touches(a, d.vec(), b, d.vec()); !got.ok && got != (touch{}) {
			t.Fatalf("%v, %v: %v", a, b, got)
		}
	}
}
