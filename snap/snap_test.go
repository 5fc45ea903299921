package snap

import (
	"slices"
	"strings"
	"testing"

	"gyre/api"
)

// Promise 8.1: a body is seen by its Id, Kind, and a 256th of its Size, At and Speed.
func TestLookByHand(t *testing.T) {
	b := api.Body{
		Id: 7, Owner: 3, Shape: api.Shape{Kind: api.Block, Size: vec(256, 512, 65536)},
		At: vec(-256, 300, 65536000), Speed: vec(-1, 255, -300), Push: vec(1000, 2000, 3000), Mass: 65536, Teams: 5,
	}
	want := Seen{Id: 7, Kind: 2, Size: vec(1, 2, 256), At: vec(-1, 1, 256000), Speed: vec(-1, 0, -2)}
	if got := Look(b); got != want {
		t.Fatalf("Look(%v) = %v, want %v", b, got, want)
	}
	if got := Look(api.Body{}); got != (Seen{}) {
		t.Fatalf("Look of nobody = %v", got)
	}
}

// Promise 8.1: each number alone, rounded down, below 0 too.
func TestLookRoundsDown(t *testing.T) {
	for _, c := range [][2]int{
		{0, 0}, {1, 0}, {255, 0}, {256, 1}, {257, 1}, {511, 1}, {512, 2},
		{-1, -1}, {-255, -1}, {-256, -1}, {-257, -2}, {-512, -2}, {-513, -3},
		{1 << 46, 1 << 38}, {1<<46 - 1, 1<<38 - 1}, {-1 << 46, -1 << 38}, {-1<<46 - 1, -1<<38 - 1},
		{most, 1<<55 - 1}, {low, -1 << 55},
	} {
		for i := range 9 {
			var b api.Body
			in := [9]*int{&b.Shape.Size.X, &b.Shape.Size.Y, &b.Shape.Size.Z, &b.At.X, &b.At.Y, &b.At.Z, &b.Speed.X, &b.Speed.Y, &b.Speed.Z}
			*in[i] = c[0]
			var want Seen
			*nine(&want)[i] = c[1]
			if got := Look(b); got != want {
				t.Fatalf("Look(%v) = %v, want %v", b, got, want)
			}
		}
	}
}

// Promise 8.1: Id and Kind stay as they are, whatever they are; what is not seen does not matter.
func TestLookKeepsIdAndKind(t *testing.T) {
	for _, n := range []int{low, -1, 0, 1, 2, 3, 8, 255, 256, 1 << 41, most} {
		if got := Look(api.Body{Id: n}); got != (Seen{Id: n}) {
			t.Fatalf("Look of body %d = %v", n, got)
		}
		if got := Look(api.Body{Shape: api.Shape{Kind: n}}); got != (Seen{Kind: n}) {
			t.Fatalf("Look of kind %d = %v", n, got)
		}
		hidden := api.Body{Owner: n, Push: vec(n, n, n), Mass: n, Teams: n}
		if got := Look(hidden); got != (Seen{}) {
			t.Fatalf("Look(%v) = %v", hidden, got)
		}
	}
}

// right fails unless Right says just that, and leaves the view as it is.
func right(t *testing.T, v View, want bool) {
	t.Helper()
	was := copied(v)
	if got := Right(v); got != want {
		t.Fatalf("Right(%v) = %v, want %v", v, got, want)
	}
	if !slices.Equal(v, was) {
		t.Fatalf("Right changed %v to %v", was, v)
	}
}

// counted is a view of so many bodies, from number 1 on.
func counted(many int) View {
	v := View{}
	for i := range many {
		v = append(v, Seen{Id: i + 1})
	}
	return v
}

// Promise 8.1: at most MaxBodies.
func TestRightMany(t *testing.T) {
	right(t, nil, true)
	for _, many := range []int{0, 1, 2, 59, 60} {
		right(t, counted(many), true)
	}
	for _, many := range []int{61, 62, 1000} {
		right(t, counted(many), false)
	}
}

// Promise 8.1: Ids rising, each above the one ahead, from 1 to 2^40.
func TestRightIds(t *testing.T) {
	ids := func(l ...int) View {
		v := View{}
		for _, id := range l {
			v = append(v, Seen{Id: id})
		}
		return v
	}
	for _, l := range [][]int{{1}, {2}, {wide}, {wide - 1}, {1, 2}, {1, wide}, {wide - 1, wide}, {5, 7, 100, 1 << 39, wide}} {
		right(t, ids(l...), true)
	}
	for _, l := range [][]int{
		{0}, {-1}, {low}, {most}, {wide + 1}, {1 << 41}, {1, 1}, {2, 1}, {0, 1}, {1, wide + 1}, {wide, wide}, {wide, wide - 1},
		{wide, wide + 1}, {1, 2, 2}, {1, 3, 2}, {2, 1, 3}, {1, 2, 0}, {3, 5, 4, 6}, {most, 1}, {most, low}, {low, 1}, {most, low, 2}, {-3, -2, 1},
	} {
		right(t, ids(l...), false)
	}
}

// Promise 8.1: Kinds from 0 to 7, all other numbers within 2^40, of each body.
func TestRightNumbers(t *testing.T) {
	for i := range 3 {
		for kind, want := range map[int]bool{low: false, -1: false, 0: true, 1: true, 7: true, 8: false, 9: false, most: false} {
			v := counted(3)
			v[i].Kind = kind
			right(t, v, want)
		}
		for k := range 9 {
			for n, want := range map[int]bool{
				low: false, -2 * wide: false, -wide - 1: false, -wide: true, 1 - wide: true, -1: true, 0: true,
				1: true, wide - 1: true, wide: true, wide + 1: false, 2 * wide: false, most: false,
			} {
				v := counted(3)
				*nine(&v[i])[k] = n
				right(t, v, want)
			}
		}
	}
}

// Promise 8.1: what is drawn, right or not.
func TestRightDrawn(t *testing.T) {
	d := die(1)
	for range 3000 {
		v := d.view(8)
		right(t, v, true)
		if len(v) == 0 {
			continue
		}
		s := &v[d.upTo(len(v))]
		n := []int{0, -1, 8, wide, wide + 1, -wide, -wide - 1, d.number()}[d.upTo(8)]
		switch k := d.upTo(11); k {
		case 9:
			s.Id = n
		case 10:
			s.Kind = n
		default:
			*nine(s)[k] = n
		}
		right(t, v, mayBe(v))
	}
}

// Promise 8.2, example 8: from a view to itself nothing changes.
func TestNothingChanges(t *testing.T) {
	d := die(2)
	for _, v := range []View{nil, {}, {{Id: 1}}, counted(60), d.view(20), d.view(60)} {
		b, err := Delta(v, copied(v))
		asks(t, "Delta", err, api.OK)
		if !slices.Equal(b, []byte{0xc0}) {
			t.Fatalf("from a view to itself: %x, want c0", b)
		}
		got, err := Apply(v, []byte{0xc0})
		asks(t, "Apply", err, api.OK)
		if !slices.Equal(got, v) {
			t.Fatalf("Apply(%v, c0) = %v", v, got)
		}
	}
}

// Promise 8.2: the bits, worked out by hand.
func TestDeltaByHand(t *testing.T) {
	old := Seen{Id: 3, Kind: 1, Size: vec(5, 6, 7), At: vec(10, 20, 30), Speed: vec(-1, 0, 1)}
	turned, grown, moved, faster, all := old, old, old, old, old
	turned.Kind = 6
	grown.Size = vec(5, 4, 8)
	moved.At = vec(11, 20, 14)
	faster.Speed = vec(-1, 0, 0)
	all.Kind, all.Size.X, all.At.Y, all.Speed.Z = 0, 6, 19, 18
	for _, c := range []struct {
		from, to View
		text     string
	}{
		{nil, View{old}, "01 000010 001  001010 001100 001110  010100 101000 000001 111100 000001  000001 000000 000010  11"},
		{View{old}, nil, "00 000010 11"},
		{View{old}, View{turned}, "10 000010 100 110 000000 000000 000000 11"},
		{View{old}, View{grown}, "10 000010 100 001 000000 000011 000010 11"},
		{View{old}, View{moved}, "10 000010 010 000010 000000 011111 11"},
		{View{old}, View{faster}, "10 000010 001 000000 000000 000001 11"},
		{View{old}, View{all}, "10 000010 111 000 000010 000000 000000 000000 000001 000000 000000 000000 100010 000001 11"},
	} {
		becomes(t, c.from, c.to, strings.ReplaceAll(c.text, " ", ""))
	}
}

// Promise 8.2: body by body, by the Ids of both; an Id less the one that was told last, not the one ahead.
func TestDeltaByIds(t *testing.T) {
	from := View{{Id: 1}, {Id: 2}, {Id: 5}, {Id: 40}, {Id: 41}}
	to := View{{Id: 2, Kind: 1}, {Id: 4}, {Id: 5}, {Id: 40}, {Id: 75}}
	new := "000" + strings.Repeat("000000", 9)
	becomes(t, from, to, "00000000"+"10000000"+"100001"+strings.Repeat("000000", 3)+"01000001"+new+"00"+"100100"+"000001"+"01"+"100001"+"000001"+new+"11")
	// All of both, all told: 120 of them.
	left, right, text := View{}, View{}, ""
	for i := range 60 {
		left = append(left, Seen{Id: 2*i + 1})
		right = append(right, Seen{Id: 2*i + 2})
		text += "00000000" + "01000000" + new
	}
	becomes(t, left, right, text+"11")
	becomes(t, left, nil, strings.Replace(strings.Repeat("00000001", 60), "1", "0", 1)+"11")
}

// Promise 8.2: the greatest steps that there are.
func TestDeltaEnds(t *testing.T) {
	low, high := Seen{Id: wide, Kind: 7}, Seen{Id: wide}
	for i := range 9 {
		*nine(&low)[i], *nine(&high)[i] = -wide, wide
	}
	for _, c := range [][2]View{
		{nil, {low}}, {nil, {high}}, {{low}, {high}}, {{high}, {low}}, {{low}, nil}, {nil, {{Id: 1}, low}}, {{{Id: 1}, high}, {{Id: 1}}},
	} {
		becomes(t, c[0], c[1], words(c[0], c[1]))
	}
}

// Promise 8.2: each single part that changes, by each single number.
func TestDeltaEachPart(t *testing.T) {
	d := die(3)
	for i := range 9 {
		for _, n := range []int{1, -1, 15, 16, -16, -17, wide, -wide} {
			from := View{{Id: 4, Kind: 2}, d.seen(9), {Id: 20, At: vec(1, 2, 3)}}
			*nine(&from[1])[i] = 0
			to := copied(from)
			*nine(&to[1])[i] = n
			becomes(t, from, to, words(from, to))
			becomes(t, to, from, words(to, from))
		}
	}
	for kind := range 8 {
		becomes(t, View{{Id: 1, Kind: 3}}, View{{Id: 1, Kind: kind}}, words(View{{Id: 1, Kind: 3}}, View{{Id: 1, Kind: kind}}))
	}
}

// Promise 8.2 and "what changes is enough": drawn views, and what comes of them.
func TestWhatChangesIsEnough(t *testing.T) {
	d := die(4)
	for _, many := range []int{1, 2, 5, 20, 40} {
		for range 150 {
			from := d.view(many)
			to := d.other(from, 50)
			if d.upTo(4) == 0 {
				to = d.view(many)
			}
			if text := words(from, to); len(text) <= room {
				becomes(t, from, to, text)
			}
		}
	}
}

// Promise 8.2: a view that goes on by changes alone is what it was.
func TestChangesOneByOne(t *testing.T) {
	d := die(5)
	var here, there View
	for range 400 {
		next := d.other(here, 25)
		b, err := Delta(here, next)
		asks(t, "Delta", err, api.OK)
		there, err = Apply(there, b)
		asks(t, "Apply", err, api.OK)
		if !slices.Equal(there, next) {
			t.Fatalf("it came to %v, want %v", there, next)
		}
		here = next
	}
}

// wrongs are views that may not be.
func wrongs() []View {
	l := []View{counted(61), {{Id: 0}}, {{Id: wide + 1}}, {{Id: 2}, {Id: 2}}, {{Id: 3}, {Id: 2}}, {{Id: 1, Kind: 8}}, {{Id: 1, Kind: -1}}, {{Id: most}, {Id: low}}}
	for i := range 9 {
		for _, n := range []int{wide + 1, -wide - 1, most, low} {
			s := Seen{Id: 1}
			*nine(&s)[i] = n
			l = append(l, View{s}, View{s, {Id: 2}})
		}
	}
	return l
}

// Promise 8.2: ErrArg, unless both are Right: ahead of all else.
func TestWrongViews(t *testing.T) {
	none := func(what string, from, to View) {
		t.Helper()
		b, err := Delta(from, to)
		asks(t, what, err, api.ErrArg)
		if b != nil {
			t.Fatalf("%s: %x beside an error", what, b)
		}
	}
	for _, v := range wrongs() {
		none("Delta of a wrong from", v, nil)
		none("Delta of a wrong to", nil, v)
		none("Delta of a wrong view to itself", v, v)
		none("Delta of too much", v, greatest(60))
		none("Delta to a wrong view", greatest(60), v)
		for _, b := range [][]byte{nil, {0xc0}, {0}, {0xff, 0xff}, make([]byte, 5000)} {
			got, err := Apply(v, b)
			asks(t, "Apply to a wrong view", err, api.ErrArg)
			if got != nil {
				t.Fatalf("Apply: %v beside an error", got)
			}
		}
	}
}

// greatest is a view of so many bodies that needs as many bits as it can.
func greatest(many int) View {
	v, id := View{}, 0
	for i := range many {
		// 31 of the longest steps fit into 2^40; the others are next to the longest.
		if i < 31 {
			id += 1<<35 + 1
		} else {
			id += 1<<30 + 1
		}
		s := Seen{Id: id, Kind: 7}
		for _, n := range nine(&s) {
			*n = -wide
		}
		v = append(v, s)
	}
	return v
}

// tighter makes numbers of a view smaller, until what changes to it is just so many bits.
func tighter(t *testing.T, from, to View, want int) View {
	t.Helper()
	to = copied(to)
	extra := (len(words(from, to)) - want) / 6
	for i := range to {
		for _, n := range nine(&to[i]) {
			cut := min(extra, 8)
			if cut == 8 {
				*n = 0
			} else if cut > 0 {
				*n = 1 << (5*(8-cut) - 1)
			}
			extra -= cut
		}
	}
	if got := len(words(from, to)); got != want {
		t.Fatalf("the views change by %d bits, want %d", got, want)
	}
	return to
}

// Promise 8.2: ErrLimit, if these are more than 8 MaxBytes - 128 bits.
func TestLimit(t *testing.T) {
	all := greatest(60)
	other := View{{Id: all[59].Id, Kind: 1}}
	aside := func(ids ...int) View {
		v := View{}
		for _, id := range ids {
			v = append(v, Seen{Id: id})
		}
		return v
	}
	two, one := aside(1, 2), append(aside(1), other...)
	for _, c := range []struct {
		from View
		many int
	}{
		{two, room}, {nil, room + 2 - 6}, {one, room + 1 - 6},
		{two, room - 6}, {two, room - 12}, {nil, room + 2 - 600}, {one, 30001},
	} {
		to := tighter(t, c.from, all, c.many)
		becomes(t, c.from, to, words(c.from, to))
	}
	for _, c := range []struct {
		from View
		many int
	}{
		{one, room + 1}, {nil, room + 2}, {nil, room + 8}, {one, room + 7}, {two, room + 6}, {two, room + 18}, {two, 31998}, {nil, 32000}, {nil, 32006}, {two, 32004}, {one, 32005},
		{nil, len(words(nil, all))}, {two, len(words(two, all))},
	} {
		to := tighter(t, c.from, all, c.many)
		b, err := Delta(c.from, to)
		asks(t, "Delta of too much", err, api.ErrLimit)
		if b != nil {
			t.Fatalf("%d bytes beside an error", len(b))
		}
		makesNone(t, "Apply of too much", c.from, packed(words(c.from, to)))
	}
}

// Promise 8.2: what is too much is so wherever it stands: small changes behind it do not help.
func TestLimitThenLittle(t *testing.T) {
	all := greatest(60)
	from := View{}
	for i := range 60 {
		from = append(from, Seen{Id: all[59].Id + 1 + i})
	}
	b, err := Delta(from, all)
	asks(t, "Delta of too much", err, api.ErrLimit)
	if b != nil {
		t.Fatalf("%d bytes beside an error", len(b))
	}
}
