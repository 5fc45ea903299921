package client

import (
	"maps"
	"slices"
	"testing"

	"gyre/api"
	"gyre/snap"
	"gyre/wire"
)

const (
	ring  = 32             // a view is forgotten when one comes that is so many steps newer
	top   = 70368744177664 // 2^46: the greatest step
	whole = 100            // bytes that a piece may have
	parts = 40             // pieces that a step may have
)

// tell is a piece as a datagram.
func tell(t *testing.T, p wire.Piece) []byte {
	t.Helper()
	b, err := wire.Tell(p)
	if err != nil {
		t.Fatalf("Tell(%v): %v", p, err)
	}
	return b
}

// delta is what changes from a view to another one.
func delta(t *testing.T, from, to snap.View) []byte {
	t.Helper()
	b, err := snap.Delta(from, to)
	if err != nil {
		t.Fatalf("Delta(%v, %v): %v", from, to, err)
	}
	return b
}

// inPieces are bytes in just so many datagrams, cut in any places; what is left is empty.
func inPieces(t *testing.T, step, base, many int, b []byte) [][]byte {
	t.Helper()
	long := (len(b) + many - 1) / many
	var l [][]byte
	for i := range many {
		part := b[:min(long, len(b))]
		b = b[len(part):]
		l = append(l, tell(t, wire.Piece{Step: step, Base: base, Index: i, Many: many, Bytes: part}))
	}
	return l
}

// sent are the datagrams of a step, as a server sends them.
func sent(t *testing.T, step, base int, from, to snap.View) [][]byte {
	t.Helper()
	cut, err := wire.Cut(step, base, delta(t, from, to))
	if err != nil {
		t.Fatalf("Cut of step %d by %d: %v", step, base, err)
	}
	var l [][]byte
	for _, p := range cut {
		l = append(l, tell(t, p))
	}
	return l
}

// viewOf is a view of few bytes, another one each step; that of step 0 is empty.
func viewOf(step int) snap.View {
	if step == 0 {
		return nil
	}
	return snap.View{
		{Id: 1, Kind: 1, Size: api.Vec{X: 256}, At: api.Vec{Y: step % 1000}},
		{Id: 2 + step%5, Kind: 2, At: api.Vec{X: -step % 77}, Speed: api.Vec{Z: 3}},
	}
}

// wideOf is a view of many bytes, another one each step.
func wideOf(step int) snap.View {
	var v snap.View
	for id := 1; id <= api.MaxBodies; id++ {
		n := 1<<39 + 1000*id + step
		v = append(v, snap.Seen{Id: id, Kind: id % 8, Size: api.Vec{X: n, Y: -n, Z: n}, At: api.Vec{X: -n, Y: n, Z: -n}, Speed: api.Vec{X: n, Y: n, Z: -n}})
	}
	return v
}

// single is a step's viewOf in one datagram, told by that of a base.
func single(t *testing.T, step, base int) []byte {
	t.Helper()
	return inPieces(t, step, base, 1, delta(t, viewOf(base), viewOf(step)))[0]
}

// halves is the same in two.
func halves(t *testing.T, step, base int) [][]byte {
	t.Helper()
	return inPieces(t, step, base, 2, delta(t, viewOf(base), viewOf(step)))
}

// has fails unless a client has just so many views, and that one is the newest.
func has(t *testing.T, c *Client, many, step int, view snap.View) {
	t.Helper()
	got, v := c.Newest()
	if got != step || !slices.Equal(v, view) || c.Many() != many {
		t.Fatalf("step %d, %v, %d views, want step %d, %v, %d views", got, v, c.Many(), step, view, many)
	}
}

// rejects fails unless no view comes of a datagram, and those that are there stay.
func rejects(t *testing.T, what string, c *Client, b []byte) {
	t.Helper()
	step, view := c.Newest()
	many := c.Many()
	if c.Feed(b) {
		now, _ := c.Newest()
		t.Fatalf("%s: Feed is true: step %d behind step %d", what, now, step)
	}
	has(t, c, many, step, view)
}

// takes fails unless a step's viewOf comes of a datagram: then there are so many views.
func takes(t *testing.T, what string, c *Client, b []byte, many, step int) {
	t.Helper()
	if !c.Feed(b) {
		t.Fatalf("%s: Feed is false", what)
	}
	has(t, c, many, step, viewOf(step))
}

// grown is a client that was sent the views of some steps, rising, each by nothing.
func grown(t *testing.T, steps ...int) *Client {
	t.Helper()
	c := New()
	for _, step := range steps {
		if !c.Feed(single(t, step, 0)) {
			t.Fatalf("step %d does not come", step)
		}
	}
	return c
}

// hasBase fails unless a client has the view of a step, or has it not. (A copy is asked, so that the client stays as it is.)
func hasBase(t *testing.T, c *Client, base int, want bool) {
	t.Helper()
	other := &Client{views: maps.Clone(c.views), newest: c.newest}
	step := c.newest + 1
	// That nothing changes may be told of any view.
	got := other.Feed(tell(t, wire.Piece{Step: step, Base: base, Many: 1, Bytes: []byte{0xc0}}))
	if got != want {
		t.Fatalf("step %d by step %d: Feed is %v, want %v", step, base, got, want)
	}
	if _, v := other.Newest(); got && !slices.Equal(v, viewOf(base)) {
		t.Fatalf("step %d is %v, want %v", base, v, viewOf(base))
	}
}

// model is the chapter once more: lists of what came, looked through from end to end.
type model struct {
	steps  []int // of the views that it has, rising
	views  []snap.View
	pieces []wire.Piece // those that are gathered
}

func newModel() *model { return &model{steps: []int{0}, views: []snap.View{nil}} }

func (m *model) newest() (int, snap.View) {
	last := len(m.steps) - 1
	return m.steps[last], m.views[last]
}

// feed tells what comes of a datagram: "view", or why none does.
func (m *model) feed(b []byte) string {
	p, err := wire.Told(b)
	if err != nil {
		return "no piece"
	}
	if step, _ := m.newest(); p.Step <= step {
		return "not above the newest"
	}
	if len(m.pieces) > 0 && p.Step > m.pieces[0].Step {
		m.pieces = nil
	}
	for _, q := range m.pieces {
		switch {
		case p.Step < q.Step:
			return "below what is gathered"
		case p.Base != q.Base:
			return "another base"
		case p.Many != q.Many:
			return "another many"
		case p.Index == q.Index:
			return "twice"
		}
	}
	m.pieces = append(m.pieces, p)
	if len(m.pieces) < p.Many {
		return "not all"
	}
	l := m.pieces
	m.pieces = nil
	return m.become(l)
}

// become tells what comes of all pieces of a step.
func (m *model) become(l []wire.Piece) string {
	slices.SortFunc(l, func(p, q wire.Piece) int { return p.Index - q.Index })
	var b []byte
	for _, p := range l {
		b = append(b, p.Bytes...)
	}
	i := slices.Index(m.steps, l[0].Base)
	if i < 0 {
		return "no base"
	}
	v, err := snap.Apply(m.views[i], b)
	if err != nil {
		return "no change of the base"
	}
	newest := l[0].Step
	for len(m.steps) > 1 && newest-m.steps[1] >= ring {
		m.steps, m.views = slices.Delete(m.steps, 1, 2), slices.Delete(m.views, 1, 2)
	}
	m.steps, m.views = append(m.steps, newest), append(m.views, v)
	return "view"
}

// die tells numbers that look drawn, the same each time.
type die uint64

func (d *die) upTo(many int) int {
	*d = *d*6364136223846793005 + 1442695040888963407
	return int(uint64(*d>>20) % uint64(many))
}

func (d *die) bytes(many int) []byte {
	b := make([]byte, many)
	for i := range b {
		b[i] = byte(d.upTo(256))
	}
	return b
}

// mixed brings datagrams into another order.
func (d *die) mixed(l [][]byte) [][]byte {
	l = slices.Clone(l)
	for i := range l {
		j := d.upTo(i + 1)
		l[i], l[j] = l[j], l[i]
	}
	return l
}

func (d *die) vec() api.Vec {
	f := func() int { return d.upTo(1<<(1+d.upTo(40))) - d.upTo(1<<(1+d.upTo(40))) }
	return api.Vec{X: f(), Y: f(), Z: f()}
}

// next is a view a little on, of so many bodies at most: some gone, some new, some moved.
func (d *die) next(v snap.View, most int) snap.View {
	var to snap.View
	id := 0
	for _, s := range v {
		for range d.upTo(2) * d.upTo(3) {
			if id++; id < s.Id {
				to = append(to, snap.Seen{Id: id, Kind: d.upTo(8), Size: d.vec(), At: d.vec(), Speed: d.vec()})
			}
		}
		if id = max(id, s.Id); d.upTo(12) == 0 {
			continue
		}
		if d.upTo(3) > 0 {
			s.At = d.vec()
		}
		if d.upTo(3) == 0 {
			s.Speed, s.Kind = d.vec(), d.upTo(8)
		}
		to = append(to, s)
	}
	for range d.upTo(4) {
		id += 1 + d.upTo(4)
		to = append(to, snap.Seen{Id: id, Kind: d.upTo(8), At: d.vec()})
	}
	return to[:min(len(to), most)]
}
