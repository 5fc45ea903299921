package client

import (
	"slices"
	"testing"

	"gyre/snap"
	"gyre/wire"
)

// feedBoth feeds a client and the model, and fails unless both have the same then: what the model tells.
func feedBoth(t *testing.T, c *Client, m *model, b []byte) string {
	t.Helper()
	why := m.feed(b)
	if got := c.Feed(b); got != (why == "view") {
		t.Fatalf("Feed(%x) is %v, the model tells: %s", b, got, why)
	}
	step, view := m.newest()
	has(t, c, len(m.steps), step, view)
	return why
}

// datagrams are some of a step above the newest one (or a little below), right or wrong in some way.
func (d *die) datagrams(t *testing.T, m *model) [][]byte {
	t.Helper()
	newest, v := m.newest()
	step := max(1, newest-3+d.upTo(9))
	if d.upTo(25) == 0 {
		step += 20 + d.upTo(25)
	}
	if len(m.pieces) > 0 && d.upTo(3) > 0 {
		step = max(1, m.pieces[0].Step-d.upTo(2))
	}
	i := d.upTo(len(m.steps))
	base, from := m.steps[i], m.views[i]
	if d.upTo(10) == 0 {
		base = d.upTo(step)
	}
	base = min(base, step-1)
	b := delta(t, from, d.next(v, 30))
	if d.upTo(15) == 0 {
		b = b[:d.upTo(len(b))]
	}
	return inPieces(t, step, base, (len(b)+whole-1)/whole+1+d.upTo(3)*d.upTo(4), b)
}

// spoilt is a datagram with a bit turned round, now and then.
func (d *die) spoilt(b []byte) []byte {
	b = slices.Clone(b)
	if d.upTo(30) == 0 {
		bit := d.upTo(8 * len(b))
		b[bit/8] ^= 128 >> (bit % 8)
	}
	return b
}

// Promise 11.1: drawn datagrams, of all kinds of right and wrong: the client has what the model has.
func TestDrawn(t *testing.T) {
	d := die(4)
	count := map[string]int{}
	for range 150 {
		c, m := New(), newModel()
		var late [][]byte
		for range 60 {
			for _, b := range d.mixed(d.datagrams(t, m)) {
				if d.upTo(12) == 0 {
					late = append(late, b)
					continue
				}
				for range 1 + d.upTo(6)/5 {
					count[feedBoth(t, c, m, d.spoilt(b))]++
				}
			}
			if len(late) > 0 && d.upTo(2) == 0 {
				i := d.upTo(len(late))
				count[feedBoth(t, c, m, late[i])]++
				late = slices.Delete(late, i, i+1)
			}
		}
	}
	for _, why := range []string{
		"view", "no piece", "not above the newest", "below what is gathered", "another base", "another many", "twice", "not all", "no base", "no change of the base",
	} {
		if count[why] < 100 {
			t.Fatalf("%s: %d times of %v", why, count[why], count)
		}
	}
}

// P1: whatever bytes come the call ends, and the client has what the model has.
func TestAnyBytes(t *testing.T) {
	d := die(5)
	c, m := New(), newModel()
	for range 20000 {
		feedBoth(t, c, m, d.bytes(d.upTo(40)))
	}
	// Such as look like pieces of a small step, but are full of anything.
	for range 20000 {
		many := 1 + d.upTo(3)
		p := wire.Piece{Step: 1 + d.upTo(50), Many: many, Index: d.upTo(many), Bytes: d.bytes(d.upTo(5))}
		p.Base = d.upTo(p.Step)
		feedBoth(t, c, m, tell(t, p))
	}
}

// line is a way on which datagrams are lost, late, told twice, and turned round.
type line struct {
	die
	on   [][]byte
	loss int // of 10
}

// send puts datagrams on the line.
func (l *line) send(b [][]byte) {
	for _, x := range b {
		for range 1 + l.upTo(8)/7 {
			if l.upTo(10) >= l.loss {
				l.on = append(l.on, x)
			}
		}
	}
}

// come takes some of what is on the line, in any order; others come later.
func (l *line) come() [][]byte {
	l.on = l.mixed(l.on)
	many := len(l.on) - l.upTo(len(l.on)+1)*l.upTo(2)
	b := l.on[:many]
	l.on = slices.Clone(l.on[many:])
	return b
}

// baseOf is the base by which a step is told to one who has seen another one: within 31 steps ahead of it, else 0.
func baseOf(step, seen int) int {
	if step-seen < ring {
		return seen
	}
	return 0
}

// Promise 11.1: what comes is what was: whatever is lost, late, twice, or turned round, a view that a client has of a step is that one.
func TestWhatComesIsWhatWas(t *testing.T) {
	for loss := range 10 {
		l := line{die: die(6 + loss), loss: loss}
		c := New()
		views := []snap.View{nil}
		seen, came := 0, 0
		for step := 1; step <= 400; step++ {
			views = append(views, l.next(views[step-1], 4))
			base := baseOf(step, seen)
			l.send(sent(t, step, base, views[base], views[step]))
			for _, b := range l.come() {
				if c.Feed(b) {
					came++
				}
				newest, v := c.Newest()
				if newest > step || !slices.Equal(v, views[newest]) {
					t.Fatalf("at step %d: step %d is %v, want %v", step, newest, v, views[newest])
				}
			}
			// What was seen is told on such a line, too.
			if newest, _ := c.Newest(); l.upTo(10) >= loss {
				seen = newest
			}
		}
		if loss < 5 && came < 50 || came == 0 {
			t.Fatalf("with %d of 10 lost %d views came", loss, came)
		}
	}
}

// Promise 11.1: if nothing is lost each step comes, as soon as its last piece is there, by each base that is not forgotten yet.
func TestNothingIsLost(t *testing.T) {
	d := die(20)
	for late := range ring {
		c := New()
		views := []snap.View{nil}
		for step := 1; step <= 100; step++ {
			views = append(views, d.next(views[step-1], 20))
			base := max(0, step-1-late)
			l := d.mixed(sent(t, step, base, views[base], views[step]))
			for i, b := range l {
				if got := c.Feed(b); got != (i == len(l)-1) {
					t.Fatalf("step %d by %d, piece %d of %d: Feed is %v", step, base, i, len(l), got)
				}
			}
			has(t, c, min(step+1, ring+1), step, views[step])
		}
	}
}
