package client

import (
	"fmt"
	"slices"
	"testing"

	"gyre/api"
	"gyre/snap"
	"gyre/wire"
)

// Promise 11.1: a new client has the empty view of step 0.
func TestNew(t *testing.T) {
	has(t, New(), 1, 0, nil)
}

// Promise 11.1: datagrams and views worked out by hand.
func TestByHand(t *testing.T) {
	c := New()
	// Step 1 by step 0, one piece of the byte c0: nothing changes.
	if !c.Feed([]byte{0x04, 0x00, 0x40, 0x03, 0x80}) {
		t.Fatal("step 1 does not come")
	}
	has(t, c, 2, 1, nil)
	// Step 2 by step 1, one piece: 01 000000, 001, nine Ints (At.Y is -1), 11, filled up: 67 bits, 9 bytes.
	if !c.Feed([]byte{0x08, 0x10, 0x40, 0x12, 0x80, 0x40, 0x00, 0x00, 0x01, 0x00, 0x00, 0x00, 0xc0}) {
		t.Fatal("step 2 does not come")
	}
	ball := snap.View{{Id: 1, Kind: 1, At: api.Vec{Y: -1}}}
	has(t, c, 3, 2, ball)
	// Step 3 by step 2 in two pieces: 00 000000 11: it is gone. The second one comes first.
	second, first := []byte{0x0c, 0x20, 0x81, 0x03, 0x80}, []byte{0x0c, 0x20, 0x80, 0x02, 0x00}
	rejects(t, "the second piece", c, second)
	if !c.Feed(first) {
		t.Fatal("step 3 does not come")
	}
	has(t, c, 4, 3, nil)
}

// Promise 11.1: what is no piece is nothing: each bit turned round, each end cut off, more behind it.
func TestNoPiece(t *testing.T) {
	right := single(t, 7, 0)
	for _, b := range [][]byte{nil, {}, {0}, {0xff}, slices.Repeat([]byte{0xff}, 5000), make([]byte, 5000), append(slices.Clone(right), 0)} {
		rejects(t, fmt.Sprintf("%.20x", b), New(), b)
	}
	for long := range right {
		rejects(t, fmt.Sprint("cut off at ", long), New(), right[:long])
	}
	for bit := range 8 * len(right) {
		b := slices.Clone(right)
		b[bit/8] ^= 128 >> (bit % 8)
		if _, err := wire.Told(b); err != nil {
			rejects(t, fmt.Sprint("bit ", bit), New(), b)
		}
	}
	takes(t, "the right one", New(), right, 2, 7)
}

// Promise 11.1: what is no piece changes nothing of what is gathered.
func TestNoPieceWhileGathering(t *testing.T) {
	c := New()
	l := halves(t, 7, 0)
	rejects(t, "the first half", c, l[0])
	for _, b := range [][]byte{nil, {1, 2, 3}, l[1][:len(l[1])-1], append(slices.Clone(l[1]), 0)} {
		rejects(t, "no piece", c, b)
	}
	takes(t, "the second half", c, l[1], 2, 7)
}

// Promise 11.1: a step that is not above the newest one is nothing, that is of any base, in any number of pieces.
func TestNotAboveNewest(t *testing.T) {
	c := grown(t, 3, 9)
	for step := 1; step <= 9; step++ {
		for base := range step {
			rejects(t, fmt.Sprint("step ", step, " by ", base), c, single(t, step, base))
			for _, b := range halves(t, step, base) {
				rejects(t, fmt.Sprint("half of step ", step, " by ", base), c, b)
			}
		}
	}
	takes(t, "step 10", c, single(t, 10, 9), 4, 10)
}

// Promise 11.1: a piece that is not above the newest one changes nothing of what is gathered.
func TestNotAboveNewestWhileGathering(t *testing.T) {
	c := grown(t, 9)
	l := halves(t, 12, 9)
	rejects(t, "the first half", c, l[0])
	rejects(t, "step 9", c, single(t, 9, 0))
	rejects(t, "step 8", c, single(t, 8, 0))
	takes(t, "the second half", c, l[1], 3, 12)
}

// Promise 11.1: a step below that whose pieces are gathered is nothing, though it is above the newest one, and whole.
func TestBelowGathered(t *testing.T) {
	c := grown(t, 3)
	l := halves(t, 7, 3)
	rejects(t, "the first half", c, l[0])
	for _, step := range []int{4, 5, 6} {
		rejects(t, "a step below", c, single(t, step, 3))
		rejects(t, "a step below", c, halves(t, step, 3)[1])
	}
	takes(t, "the second half", c, l[1], 3, 7)
}

// Promise 11.1: with a greater step the pieces of this one are gathered, and those of the other one are gone.
func TestGreaterStep(t *testing.T) {
	c := grown(t, 3)
	five, six := halves(t, 5, 3), halves(t, 6, 3)
	rejects(t, "half of step 5", c, five[0])
	rejects(t, "half of step 6", c, six[1])
	rejects(t, "the other half of step 5", c, five[1])
	takes(t, "the other half of step 6", c, six[0], 3, 6)
	rejects(t, "half of step 5", c, five[0])
	rejects(t, "half of step 5", c, five[1])

	c = grown(t, 3)
	rejects(t, "half of step 5", c, five[0])
	takes(t, "step 8, whole", c, single(t, 8, 3), 3, 8)
}

// Promise 11.1: a greater step may have any Base and Many, and the same Index.
func TestGreaterStepOfAnotherForm(t *testing.T) {
	for _, base := range []int{0, 2, 3} {
		for _, many := range []int{1, 2, 3, 40} {
			c := grown(t, 2, 3)
			rejects(t, "half of step 5", c, halves(t, 5, 3)[0])
			l := inPieces(t, 6, base, many, delta(t, viewOf(base), viewOf(6)))
			for _, b := range l[:many-1] {
				rejects(t, "a piece of step 6", c, b)
			}
			takes(t, "the last piece of step 6", c, l[many-1], 4, 6)
		}
	}
}

// Promise 11.1: a piece of another Base or Many is nothing; those that are gathered stay.
func TestAnotherBaseOrMany(t *testing.T) {
	c := grown(t, 2, 3)
	l := halves(t, 5, 3)
	rejects(t, "the first half", c, l[0])
	for _, base := range []int{0, 1, 2, 4} {
		rejects(t, "another base, whole", c, single(t, 5, base))
		for _, b := range halves(t, 5, base) {
			rejects(t, "another base", c, b)
		}
	}
	for _, many := range []int{1, 3, 4, 40} {
		for _, b := range inPieces(t, 5, 3, many, delta(t, viewOf(3), viewOf(5))) {
			rejects(t, "another many", c, b)
		}
	}
	takes(t, "the second half", c, l[1], 4, 5)
}

// Promise 11.1: an Index that is there is nothing, whatever its bytes are: what came first counts.
func TestTwice(t *testing.T) {
	c := New()
	l := halves(t, 5, 0)
	rejects(t, "the first half", c, l[0])
	for _, part := range [][]byte{nil, {0}, {1, 2, 3}, slices.Repeat([]byte{0xff}, whole)} {
		rejects(t, "another first half", c, tell(t, wire.Piece{Step: 5, Many: 2, Bytes: part}))
	}
	rejects(t, "the first half again", c, l[0])
	takes(t, "the second half", c, l[1], 2, 5)
	rejects(t, "the second half again", c, l[1])
}

// Promise 11.1: a piece without bytes is there, too.
func TestEmptyPieces(t *testing.T) {
	b := delta(t, nil, viewOf(5))
	for full := range 3 {
		c := New()
		for i := range 3 {
			p := wire.Piece{Step: 5, Index: i, Many: 3}
			if i == full {
				p.Bytes = b
			}
			if i < 2 {
				rejects(t, "a piece", c, tell(t, p))
				rejects(t, "a piece again", c, tell(t, p))
			} else {
				takes(t, "the last piece", c, tell(t, p), 2, 5)
			}
		}
	}
	c := New()
	for range 3 {
		rejects(t, "no bytes at all", c, tell(t, wire.Piece{Step: 5, Many: 1}))
	}
	takes(t, "bytes", c, tell(t, wire.Piece{Step: 5, Many: 1, Bytes: b}), 2, 5)
}

// orders goes through all orders of so many numbers.
func orders(many int) func(yield func([]int) bool) {
	return func(yield func([]int) bool) {
		var fill func(l []int) bool
		fill = func(l []int) bool {
			if len(l) == many {
				return yield(l)
			}
			for i := range many {
				if !slices.Contains(l, i) && !fill(append(slices.Clone(l), i)) {
					return false
				}
			}
			return true
		}
		fill(nil)
	}
}

// Promise 11.1: bytes are put together by Index, in whatever order the pieces come.
func TestAnyOrder(t *testing.T) {
	for many := 1; many <= 5; many++ {
		l := inPieces(t, 9, 4, many, delta(t, viewOf(4), viewOf(9)))
		for order := range orders(many) {
			c := grown(t, 4)
			for _, i := range order[:many-1] {
				rejects(t, fmt.Sprint(order), c, l[i])
			}
			takes(t, fmt.Sprint(order), c, l[order[many-1]], 3, 9)
		}
	}
}

// Promise 11.1: as many pieces as may be: forwards, backwards, drawn, each of them missing once.
func TestManyPieces(t *testing.T) {
	d := die(1)
	for _, many := range []int{2, 31, 32, 33, 39, parts} {
		l := inPieces(t, 9, 0, many, delta(t, nil, viewOf(9)))
		back := slices.Clone(l)
		slices.Reverse(back)
		for _, order := range [][][]byte{l, back, d.mixed(l), d.mixed(l)} {
			c := New()
			for _, b := range order[:many-1] {
				rejects(t, "a piece", c, b)
				rejects(t, "a piece again", c, b)
			}
			takes(t, "the last piece", c, order[many-1], 2, 9)
		}
		for missing := range many {
			c := New()
			for i, b := range l {
				if i != missing {
					rejects(t, "a piece", c, b)
				}
			}
			takes(t, "the missing piece", c, l[missing], 2, 9)
		}
	}
}

// Promise 11.1: a view of as many bodies as may be, by pieces full of bytes.
func TestWideViews(t *testing.T) {
	c := New()
	d := die(2)
	var from snap.View
	for step := 1; step <= 3; step++ {
		to := wideOf(step)
		l := sent(t, step, 0, nil, to)
		if step == 3 {
			l = sent(t, step, 2, from, to)
		}
		if len(l) < 5 {
			t.Fatalf("step %d has %d pieces", step, len(l))
		}
		for i, b := range d.mixed(l) {
			if got := c.Feed(b); got != (i == len(l)-1) {
				t.Fatalf("step %d, piece %d of %d: Feed is %v", step, i, len(l), got)
			}
		}
		has(t, c, step+1, step, to)
		from = to
	}
}

// Promise 11.1: more bytes than a change may have are none.
func TestTooManyBytes(t *testing.T) {
	c := New()
	for i := range parts {
		rejects(t, "a piece", c, tell(t, wire.Piece{Step: 5, Index: i, Many: parts, Bytes: make([]byte, whole)}))
	}
	takes(t, "step 4", c, single(t, 4, 0), 2, 4)
}

// Promise 11.1: without the view of Base none comes, though the bytes are a change of another one, or of any; then pieces of any step are gathered, lower ones, too.
func TestNoBase(t *testing.T) {
	for _, bytes := range [][]byte{delta(t, viewOf(4), viewOf(9)), delta(t, viewOf(5), viewOf(9)), delta(t, nil, viewOf(9)), {0xc0}} {
		for _, many := range []int{1, 2, 3} {
			c := grown(t, 3, 5)
			for range 3 {
				for _, b := range inPieces(t, 9, 4, many, bytes) {
					rejects(t, "by a step that is not there", c, b)
				}
			}
			takes(t, "a lower step", c, single(t, 6, 5), 4, 6)
			takes(t, "the same step", c, single(t, 9, 6), 5, 9)
		}
	}
}

// Promise 11.1: when all were there and none came, pieces are gathered anew, also those of the same step.
func TestGathersAnew(t *testing.T) {
	c := grown(t, 3)
	bad := halves(t, 9, 4)
	rejects(t, "half by a missing step", c, bad[0])
	rejects(t, "all by a missing step", c, bad[1])
	// Of the pieces that were there none is any more.
	rejects(t, "half by a missing step", c, bad[1])
	rejects(t, "a step below it", c, single(t, 8, 3))
	rejects(t, "another base", c, single(t, 9, 3))
	rejects(t, "all by a missing step", c, bad[0])
	l := halves(t, 9, 3)
	rejects(t, "half of step 9", c, l[1])
	takes(t, "all of step 9", c, l[0], 3, 9)
}

// Promise 11.1: bytes that are no change of the base's view make none.
func TestNoChange(t *testing.T) {
	right := delta(t, viewOf(3), viewOf(9))
	for what, b := range map[string][]byte{
		"no bytes":               nil,
		"an end is cut off":      right[:len(right)-1],
		"a byte too much":        append(slices.Clone(right), 0),
		"of another base":        delta(t, viewOf(4), viewOf(9)),
		"a body that came twice": delta(t, nil, viewOf(3)),
		"a body that is gone":    delta(t, snap.View{{Id: 50}}, nil),
		"a bit behind the end":   {0xe0},
	} {
		if _, err := snap.Apply(viewOf(3), b); err == nil {
			t.Fatalf("%s: that is a change", what)
		}
		c := grown(t, 3)
		for _, many := range []int{1, 2, 4} {
			for _, x := range inPieces(t, 9, 3, many, b) {
				rejects(t, what, c, x)
			}
		}
		takes(t, "a lower step", c, single(t, 7, 3), 3, 7)
		takes(t, "the same step", c, single(t, 9, 7), 4, 9)
	}
}

// Promise 11.1: the base is the one that is told, not the newest one.
func TestOlderBase(t *testing.T) {
	for _, base := range []int{0, 2, 3, 5, 8} {
		c := grown(t, 2, 3, 5, 8)
		takes(t, fmt.Sprint("step 9 by ", base), c, single(t, 9, base), 6, 9)
	}
}

// Promise 11.1: step by step: 32 views and that of step 0 at most.
func TestRing(t *testing.T) {
	c := New()
	for step := 1; step <= 3*ring; step++ {
		takes(t, fmt.Sprint("step ", step), c, single(t, step, step-1), min(step+1, ring+1), step)
		for base := range step + 1 {
			hasBase(t, c, base, base == 0 || base > step-ring)
		}
	}
}

// Promise 11.1: views of steps up to 32 below the newest one are forgotten, those 31 below stay, and that of step 0.
func TestForgets(t *testing.T) {
	for _, first := range []int{1, 2, 31, 32, 33, 1000, 1 << 40} {
		for on := 1; on <= 70; on++ {
			c := grown(t, first, first+on)
			stays := on < ring
			many := 2
			if stays {
				many = 3
			}
			has(t, c, many, first+on, viewOf(first+on))
			hasBase(t, c, first, stays)
			hasBase(t, c, 0, true)
		}
	}
}

// Promise 11.1: several are forgotten at once, and only those that are too old.
func TestForgetsSeveral(t *testing.T) {
	steps := []int{1, 2, 3, 10, 11, 20, 31}
	for newest := 32; newest <= 70; newest++ {
		c := grown(t, append(slices.Clone(steps), newest)...)
		many := 2
		for _, step := range steps {
			stays := newest-step < ring
			if stays {
				many++
			}
			hasBase(t, c, step, stays)
		}
		has(t, c, many, newest, viewOf(newest))
	}
}

// Promise 11.1: a view may be the base of the one by which it is forgotten.
func TestLastUse(t *testing.T) {
	for _, step := range []int{37, 38, 100, top} {
		c := grown(t, 5)
		takes(t, fmt.Sprint("step ", step, " by 5"), c, single(t, step, 5), 2, step)
	}
}

// Promise 11.1: a base that was forgotten is not there.
func TestForgottenBase(t *testing.T) {
	c := grown(t, 1, 2, 33)
	rejects(t, "by step 1", c, single(t, 34, 1))
	takes(t, "by step 2", c, single(t, 34, 2), 3, 34)
	rejects(t, "by step 2", c, single(t, 35, 2))
	takes(t, "by step 0", c, single(t, 35, 0), 4, 35)
}

// Promise 11.1: what makes no view forgets none, however great its step is.
func TestNoViewForgetsNothing(t *testing.T) {
	c := grown(t, 1, 2, 3)
	rejects(t, "by a missing step", c, single(t, 1000, 999))
	rejects(t, "no change", c, tell(t, wire.Piece{Step: 1000, Base: 3, Many: 1, Bytes: []byte{0}}))
	rejects(t, "half of a step", c, halves(t, 1000, 3)[0])
	has(t, c, 4, 3, viewOf(3))
	for base := range 4 {
		hasBase(t, c, base, true)
	}
}

// Promise 11.1: the greatest steps.
func TestFarthestSteps(t *testing.T) {
	c := grown(t, 1, top-32, top-31, top-1)
	has(t, c, 4, top-1, viewOf(top-1))
	rejects(t, "half of the last step", c, halves(t, top, top-31)[1])
	takes(t, "the last step", c, halves(t, top, top-31)[0], 4, top)
	rejects(t, "the last step again", c, single(t, top, 0))
	rejects(t, "a step before it", c, single(t, top-1, 0))
}

// Promise 11.1: a step that brings the same view is one, too.
func TestSameView(t *testing.T) {
	c := grown(t, 4)
	for step := 5; step < 9; step++ {
		if !c.Feed(tell(t, wire.Piece{Step: step, Base: 4, Many: 1, Bytes: delta(t, viewOf(4), viewOf(4))})) {
			t.Fatalf("step %d does not come", step)
		}
		has(t, c, step-2, step, viewOf(4))
	}
}

// P4: what Newest tells is the caller's, and shares nothing with what is kept or told again.
func TestNewestIsFresh(t *testing.T) {
	c := grown(t, 3)
	for range 2 {
		_, v := c.Newest()
		_, w := c.Newest()
		v = v[:cap(v)]
		for i := range v {
			v[i] = snap.Seen{Id: -7}
		}
		if !slices.Equal(w, viewOf(3)) {
			t.Fatalf("two answers share memory: %v", w)
		}
	}
	has(t, c, 2, 3, viewOf(3))
	takes(t, "step 4 by 3", c, single(t, 4, 3), 3, 4)
	_, v := c.Newest()
	clear(v)
	takes(t, "step 5 by 3", c, single(t, 5, 3), 4, 5)
	takes(t, "step 6 by 4", c, single(t, 6, 4), 5, 6)
}

// P4: a datagram is not written into, nor kept, nor what stands behind it.
func TestDatagramsAreNotKept(t *testing.T) {
	d := die(3)
	for _, many := range []int{1, 2, 7} {
		c := grown(t, 3)
		for i, x := range inPieces(t, 9, 3, many, delta(t, viewOf(3), viewOf(9))) {
			wide := append(slices.Clone(x), d.bytes(9)...)
			was := slices.Clone(wide)
			if got := c.Feed(wide[:len(x)]); got != (i == many-1) {
				t.Fatalf("piece %d of %d: Feed is %v", i, many, got)
			}
			if !slices.Equal(wide, was) {
				t.Fatal("Feed writes into what it is given")
			}
			for k := range wide {
				wide[k] ^= 0xff
			}
		}
		has(t, c, 3, 9, viewOf(9))
	}
}

// P4: no client has to do with another one.
func TestClientsAreApart(t *testing.T) {
	a, b := New(), New()
	l := halves(t, 5, 0)
	rejects(t, "half to a", a, l[0])
	rejects(t, "the other half to b", b, l[1])
	takes(t, "all to a", a, l[1], 2, 5)
	has(t, b, 1, 0, nil)
	takes(t, "all to b", b, l[0], 2, 5)
	takes(t, "step 50 to a", a, single(t, 50, 5), 2, 50)
	has(t, b, 2, 5, viewOf(5))
}
