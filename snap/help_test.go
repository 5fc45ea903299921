package snap

import (
	"math"
	"slices"
	"strings"
	"testing"

	"gyre/api"
	"gyre/plain"
)

const (
	wide  = 1099511627776 // 2^40: the greatest number of a view
	crowd = 60            // bodies that a view may have
	room  = 31872         // bits that a change may have
	most  = math.MaxInt
	low   = math.MinInt
)

func vec(x, y, z int) api.Vec { return api.Vec{X: x, Y: y, Z: z} }

// asks fails unless an error is that one, without a place.
func asks(t *testing.T, what string, err error, want api.Errno) {
	t.Helper()
	if e, bare := plain.Bare(err); e != want || !bare {
		t.Fatalf("%s: %v, want %v", what, err, want)
	}
}

// copied is a view that shares nothing with another one.
func copied(v View) View { return append(View{}, v...) }

// nine are all numbers of a body but its Id and Kind.
func nine(s *Seen) [9]*int {
	return [9]*int{&s.Size.X, &s.Size.Y, &s.Size.Z, &s.At.X, &s.At.Y, &s.At.Z, &s.Speed.X, &s.Speed.Y, &s.Speed.Z}
}

// The chapter once more, in texts of 0 and 1.

// put is a number in just so many bits.
func put(n, width int) string {
	text := ""
	for range width {
		text = string(rune('0'+n&1)) + text
		n >>= 1
	}
	return text
}

// putVar is 6.1's Var.
func putVar(n int) string {
	if n < 32 {
		return "0" + put(n, 5)
	}
	return "1" + put(n%32, 5) + putVar(n/32)
}

// putInt is 6.1's Int, of each number.
func putInt(numbers ...int) string {
	text := ""
	for _, n := range numbers {
		if n < 0 {
			text += putVar(-2*n - 1)
		} else {
			text += putVar(2 * n)
		}
	}
	return text
}

// packed is a text of 0 and 1 as bytes, filled up with 0.
func packed(text string) []byte {
	b := make([]byte, (len(text)+7)/8)
	for i, c := range text {
		if c == '1' {
			b[i/8] += 128 >> (i % 8)
		}
	}
	return b
}

// unpacked is bytes as a text of 0 and 1.
func unpacked(b []byte) string {
	var text strings.Builder
	for _, c := range b {
		text.WriteString(put(int(c), 8))
	}
	return text.String()
}

// mayBe is 8.1's Right.
func mayBe(v View) bool {
	for i, s := range v {
		if s.Id < 1 || s.Id > wide || s.Kind < 0 || s.Kind > 7 || i > 0 && s.Id <= v[i-1].Id {
			return false
		}
		for _, n := range nine(&s) {
			if *n < -wide || *n > wide {
				return false
			}
		}
	}
	return len(v) <= crowd
}

// byId is a view's bodies by their numbers.
func byId(v View) map[int]Seen {
	m := map[int]Seen{}
	for _, s := range v {
		m[s.Id] = s
	}
	return m
}

// listed is a view of bodies.
func listed(m map[int]Seen) View {
	v := View{}
	for _, s := range m {
		v = append(v, s)
	}
	slices.SortFunc(v, func(a, b Seen) int { return a.Id - b.Id })
	return v
}

// words are the bits of what changes from a view to another one, both of them right, however many bits they are.
func words(from, to View) string {
	was, is := byId(from), byId(to)
	text, last := "", 0
	for id := range both(from, to) {
		a, there := was[id]
		b, stays := is[id]
		if there && stays && a == b {
			continue
		}
		word := "10"
		if !there {
			word = "01"
		} else if !stays {
			word = "00"
		}
		text += word + putVar(id-last-1)
		last = id
		if !there {
			text += put(b.Kind, 3) + putInt(b.Size.X, b.Size.Y, b.Size.Z, b.At.X, b.At.Y, b.At.Z, b.Speed.X, b.Speed.Y, b.Speed.Z)
		} else if stays {
			text += change(a, b)
		}
	}
	return text + "11"
}

// both goes through the numbers of two views' bodies, rising.
func both(v, w View) func(yield func(id int) bool) {
	var ids []int
	for _, s := range slices.Concat(v, w) {
		ids = append(ids, s.Id)
	}
	slices.Sort(ids)
	ids = slices.Compact(ids)
	return func(yield func(id int) bool) {
		for _, id := range ids {
			if !yield(id) {
				return
			}
		}
	}
}

// change is what stands behind a 2.
func change(a, b Seen) string {
	bits, text := "", ""
	tell := func(other bool, more string) {
		if other {
			bits, text = bits+"1", text+more
		} else {
			bits += "0"
		}
	}
	tell(a.Kind != b.Kind || a.Size != b.Size, put(b.Kind, 3)+putInt(b.Size.X-a.Size.X, b.Size.Y-a.Size.Y, b.Size.Z-a.Size.Z))
	tell(a.At != b.At, putInt(b.At.X-a.At.X, b.At.Y-a.At.Y, b.At.Z-a.At.Z))
	tell(a.Speed != b.Speed, putInt(b.Speed.X-a.Speed.X, b.Speed.Y-a.Speed.Y, b.Speed.Z-a.Speed.Z))
	return bits + text
}

// page is what is not read yet of a text of 0 and 1, and whether it is wrong so far.
type page struct {
	text  string
	wrong bool
}

func (p *page) get(width int) int {
	if p.wrong = p.wrong || len(p.text) < width; p.wrong {
		return 0
	}
	n := 0
	for _, c := range p.text[:width] {
		n = 2*n + int(c-'0')
	}
	p.text = p.text[width:]
	return n
}

// getVar takes as many pieces as say that there are more, and tells the number they make once more.
func (p *page) getVar() int {
	n, whole := 0, p.text
	for i := 0; ; i++ {
		last := p.get(1) == 0
		n += p.get(5) << (5 * i)
		if p.wrong {
			return 0
		}
		if !last {
			continue
		}
		p.wrong = n < 0 || n > 1<<62-1 || !strings.HasPrefix(whole, putVar(n))
		return n
	}
}

func (p *page) getInt() int {
	n := p.getVar()
	p.wrong = p.wrong || n > 1<<61
	if n%2 == 1 {
		return -(n + 1) / 2
	}
	return n / 2
}

// getVec adds what is told to a vector, and is wrong, if all that is 0 and must not be.
func (p *page) getVec(v *api.Vec, mayStay bool) {
	x, y, z := p.getInt(), p.getInt(), p.getInt()
	p.wrong = p.wrong || !mayStay && vec(x, y, z) == vec(0, 0, 0)
	*v = vec(v.X+x, v.Y+y, v.Z+z)
}

// made is the view that bits make of another one, asked sentence by sentence; false: none.
func made(from View, b []byte) (View, bool) {
	p := &page{text: unpacked(b)}
	all := byId(from)
	for last := 0; ; {
		word := p.get(2)
		if word == 3 || p.wrong {
			break
		}
		id := last + 1 + p.getVar()
		s, there := all[id]
		p.wrong = p.wrong || id > wide || there == (word == 1)
		if p.wrong {
			break
		}
		last = id
		if word == 0 {
			delete(all, id)
			continue
		}
		s.Id = id
		p.read(&s, word == 1)
		all[id] = s
	}
	to := listed(all)
	wrong := p.wrong || strings.Trim(p.text, "0") != "" || len(p.text) > 7 || 8*len(b)-len(p.text) > room
	if wrong || !mayBe(to) {
		return nil, false
	}
	return to, true
}

// read reads what stands behind a 1 or a 2.
func (p *page) read(s *Seen, whole bool) {
	parts := 7
	if !whole {
		parts = p.get(3)
		p.wrong = p.wrong || parts == 0
	}
	if parts >= 4 {
		kind := p.get(3)
		p.getVec(&s.Size, whole || kind != s.Kind)
		s.Kind = kind
	}
	if parts%4 >= 2 {
		p.getVec(&s.At, whole)
	}
	if parts%2 == 1 {
		p.getVec(&s.Speed, whole)
	}
}

// delta is Delta, which must tell no error, but just the bits of a text.
func delta(t *testing.T, from, to View, text string) []byte {
	t.Helper()
	b, err := Delta(from, to)
	asks(t, "Delta", err, api.OK)
	if !slices.Equal(b, packed(text)) {
		t.Fatalf("Delta(%v, %v) = %x, want %x", from, to, b, packed(text))
	}
	return b
}

// becomes fails unless Delta tells just the bits of a text, and Apply makes of them what it was.
func becomes(t *testing.T, from, to View, text string) {
	t.Helper()
	b := delta(t, from, to, text)
	got, err := Apply(from, b)
	asks(t, "Apply", err, api.OK)
	if !slices.Equal(got, to) {
		t.Fatalf("Apply(%v, %x) = %v, want %v", from, b, got, to)
	}
}

// makesNone fails unless no view is made of one by bytes.
func makesNone(t *testing.T, what string, from View, b []byte) {
	t.Helper()
	v, err := Apply(from, b)
	asks(t, what, err, api.ErrForm)
	if v != nil {
		t.Fatalf("%s: %v beside an error", what, v)
	}
}

// makes fails unless Apply makes of a view, by bytes, what the model makes of it: whether that is a view.
func makes(t *testing.T, from View, b []byte) bool {
	t.Helper()
	want, right := made(from, b)
	if !right {
		makesNone(t, "Apply", from, b)
		return false
	}
	got, err := Apply(from, b)
	asks(t, "Apply", err, api.OK)
	if !slices.Equal(got, want) {
		t.Fatalf("Apply(%v, %x) = %v, want %v", from, b, got, want)
	}
	return true
}

// die tells numbers that look drawn, the same each time.
type die uint64

func (d *die) upTo(many int) int {
	*d = *d*6364136223846793005 + 1442695040888963407
	return int(uint64(*d>>20) % uint64(many))
}

// number is one that a view may have: of any size, either sign; often an end, or 0.
func (d *die) number() int {
	switch d.upTo(8) {
	case 0:
		return []int{-wide, wide}[d.upTo(2)]
	case 1:
		return 0
	}
	n := d.upTo(1 << (1 + d.upTo(40)))
	if d.upTo(2) == 0 {
		return -n
	}
	return n
}

func (d *die) vec() api.Vec { return vec(d.number(), d.number(), d.number()) }

func (d *die) seen(id int) Seen {
	return Seen{Id: id, Kind: d.upTo(8), Size: d.vec(), At: d.vec(), Speed: d.vec()}
}

// view is one of so many bodies, at most.
func (d *die) view(many int) View {
	v, id := View{}, 0
	for range d.upTo(many + 1) {
		id += 1 + d.upTo(1<<(1+d.upTo(12)))
		v = append(v, d.seen(id))
	}
	return v
}

// other is what comes of a view by some changes: of so many bodies at most.
func (d *die) other(v View, many int) View {
	m := byId(v)
	for _, s := range v {
		switch d.upTo(8) {
		case 0:
			delete(m, s.Id)
			continue
		case 1:
			s.Kind = d.upTo(8)
		case 2:
			s.Size = d.vec()
		case 3:
			s.At = d.vec()
		case 4:
			s.Speed.Y = d.number()
		case 5:
			s = d.seen(s.Id)
		}
		m[s.Id] = s
	}
	for range d.upTo(4) {
		if id := 1 + d.upTo(300); len(m) < many {
			m[id] = d.seen(id)
		}
	}
	return listed(m)
}
