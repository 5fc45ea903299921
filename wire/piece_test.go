package wire

import (
	"fmt"
	"slices"
	"strings"
	"testing"

	"gyre/api"
)

// cutFails fails unless Cut tells just that error, and nothing beside it.
func cutFails(t *testing.T, step, base int, b []byte, want api.Errno) {
	t.Helper()
	l, err := Cut(step, base, b)
	if asks(t, fmt.Sprint("Cut ", step, base, len(b)), err, want); l != nil {
		t.Fatalf("Cut(%d, %d, %d bytes) = %v beside an error", step, base, len(b), l)
	}
}

// cuts fails unless bytes are cut into pieces of just so many bytes each, in order.
func cuts(t *testing.T, step, base int, b []byte, want ...int) []Piece {
	t.Helper()
	l, err := Cut(step, base, b)
	asks(t, "Cut", err, api.OK)
	if len(l) != len(want) {
		t.Fatalf("Cut of %d bytes: %d pieces, want %d", len(b), len(l), len(want))
	}
	for i, p := range l {
		part := b[:want[i]]
		b = b[want[i]:]
		if !same(p, Piece{Step: step, Base: base, Index: i, Many: len(want), Bytes: part}) {
			t.Fatalf("piece %d is %v, want the bytes %x of %d, %d", i, p, part, step, base)
		}
	}
	if len(b) != 0 {
		t.Fatalf("%d bytes were not told", len(b))
	}
	return l
}

// wholes are so many whole pieces, and others behind them.
func wholes(many int, more ...int) []int { return append(slices.Repeat([]int{whole}, many), more...) }

// Promise 10.2: how many pieces there are, and of how many bytes; one at least.
func TestCut(t *testing.T) {
	d := die(10)
	for _, want := range [][]int{
		{0}, {1}, {2}, {99}, {100}, {100, 1}, {100, 99}, {100, 100}, {100, 100, 1}, {100, 100, 50},
		wholes(10), wholes(38, 7), wholes(39), wholes(39, 1), wholes(39, 99), wholes(40),
	} {
		sum := 0
		for _, n := range want {
			sum += n
		}
		cuts(t, 7, 3, d.bytes(sum), want...)
	}
	cuts(t, 1, 0, nil, 0)
	cuts(t, 1, 0, []byte{}, 0)
}

// Promise 10.2: more than MaxPieces are too many.
func TestCutTooMuch(t *testing.T) {
	for _, many := range []int{4001, 4099, 4100, 4101, 8000, 1 << 20} {
		cutFails(t, 7, 3, make([]byte, many), api.ErrLimit)
	}
}

// stepsAndBases are some that may be, then some that may not.
func stepsAndBases() (right, wrong [][2]int) {
	right = [][2]int{{1, 0}, {2, 0}, {2, 1}, {33, 1}, {33, 32}, {top, 0}, {top, top - 1}, {top - 1, top - 2}, {1 << 40, 1 << 39}}
	wrong = [][2]int{
		{0, 0}, {0, -1}, {-1, 0}, {-1, -2}, {low, 0}, {low, low}, {low, most}, {top + 1, 0}, {top + 1, top}, {most, 0}, {most, most - 1},
		{1, 1}, {1, 2}, {1, -1}, {2, 2}, {2, 3}, {5, -1}, {5, low}, {5, most}, {top, top}, {top, top + 1}, {top, -1}, {1 << 40, 1<<40 + 1},
	}
	return right, wrong
}

// Promise 10.2: which steps and bases may be; that is told ahead of too many pieces.
func TestCutEdges(t *testing.T) {
	right, wrong := stepsAndBases()
	for _, c := range right {
		cuts(t, c[0], c[1], []byte{1, 2, 3}, 3)
		cutFails(t, c[0], c[1], make([]byte, 4001), api.ErrLimit)
	}
	for _, c := range wrong {
		for _, many := range []int{0, 3, 4000, 4001} {
			cutFails(t, c[0], c[1], make([]byte, many), api.ErrRange)
		}
	}
}

// Promise 10.2: pieces by bytes worked out by hand.
func TestTellByHand(t *testing.T) {
	for _, c := range []struct {
		piece Piece
		want  []byte
	}{
		{Piece{Step: 1, Many: 1}, []byte{0x04, 0x00, 0x40, 0x00}},
		{Piece{Step: 2, Base: 1, Index: 1, Many: 2, Bytes: []byte{0x61}}, []byte{0x08, 0x10, 0x81, 0x02, 0xc2}},
		{Piece{Step: 32, Base: 31, Index: 39, Many: 40, Bytes: []byte{0xff, 0x00}}, []byte{0x80, 0x17, 0xe8, 0x9c, 0x17, 0xf8, 0x00}},
	} {
		told(t, c.piece, c.want)
	}
}

// Promise 10.2: which pieces may be: Step, Base, Many, Index and bytes, each at its edges.
func TestTellEdges(t *testing.T) {
	right, wrong := stepsAndBases()
	for _, c := range right {
		p := Piece{Step: c[0], Base: c[1], Many: 3, Index: 2, Bytes: []byte{7}}
		told(t, p, packed(telling(p)))
	}
	for _, c := range wrong {
		tellFails(t, Piece{Step: c[0], Base: c[1], Many: 3, Index: 2, Bytes: []byte{7}})
	}
	for _, many := range []int{1, 2, 31, 32, 39, 40} {
		for _, index := range []int{0, many / 2, many - 1} {
			p := Piece{Step: 9, Base: 8, Many: many, Index: index}
			told(t, p, packed(telling(p)))
		}
		for _, index := range []int{low, -1, many, many + 1, 63, 64, most} {
			tellFails(t, Piece{Step: 9, Base: 8, Many: many, Index: index})
		}
	}
	for _, many := range []int{low, -1, 0, 41, 42, 63, 64, 65, most} {
		for _, index := range []int{low, -1, 0, 1, 40, many - 1} {
			tellFails(t, Piece{Step: 9, Base: 8, Many: many, Index: index})
		}
	}
}

// Promise 10.2: a piece has at most PieceBytes bytes: any number of them, whichever piece it is.
func TestTellBytes(t *testing.T) {
	d := die(11)
	for many := range whole + 1 {
		for index := range 2 {
			p := Piece{Step: 9, Base: 8, Many: 2, Index: index, Bytes: d.bytes(many)}
			told(t, p, packed(telling(p)))
		}
	}
	for _, many := range []int{101, 127, 128, 129, 4000, 4001, 1 << 20} {
		tellFails(t, Piece{Step: 9, Base: 8, Many: 2, Index: 1, Bytes: make([]byte, many)})
	}
	all := make([]byte, 256)
	for i := range all {
		all[i] = byte(i)
	}
	for part := range slices.Chunk(all, whole) {
		p := Piece{Step: 9, Many: 1, Bytes: part}
		told(t, p, packed(telling(p)))
	}
}

// Promise 10.2: what Tell does not write is no piece, told bit by bit.
func TestToldWrongBits(t *testing.T) {
	ahead := putVar(9, 8)
	for what, text := range map[string]string{
		"nothing at all":                "",
		"cut in the step":               "10",
		"no base":                       putVar(1 << 15),
		"cut in many":                   ahead + "0000",
		"no index":                      putVar(1<<10, 8) + put(6, 1),
		"no bytes":                      ahead + put(6, 1, 0),
		"step 0":                        putVar(0, 0) + put(6, 1, 0) + put(7, 0),
		"a step too great":              putVar(top+1, 0) + put(6, 1, 0) + put(7, 0),
		"the greatest step of all":      putVar(1<<62-1, 0) + put(6, 1, 0) + put(7, 0),
		"a step that no Var tells":      strings.Repeat("111111", 12) + "001111" + putVar(0) + put(6, 1, 0) + put(7, 0),
		"a step of pieces it needs not": "101001" + "000000" + putVar(8) + put(6, 1, 0) + put(7, 0),
		"a base of pieces it needs not": putVar(9) + "101000" + "000000" + put(6, 1, 0) + put(7, 0),
		"a base that is the step":       putVar(9, 9) + put(6, 1, 0) + put(7, 0),
		"a base behind the step":        putVar(9, 10) + put(6, 1, 0) + put(7, 0),
		"a base far behind the step":    putVar(9, 1<<62-1) + put(6, 1, 0) + put(7, 0),
		"of no pieces":                  ahead + put(6, 0, 0) + put(7, 0),
		"of too many pieces":            ahead + put(6, 41, 0) + put(7, 0),
		"of far too many pieces":        ahead + put(6, 63, 62) + put(7, 0),
		"a piece behind the last one":   ahead + put(6, 40, 40) + put(7, 0),
		"a piece behind the only one":   ahead + put(6, 1, 1) + put(7, 0),
		"a byte is missing":             ahead + put(6, 1, 0) + put(7, 3) + put(8, 1, 2),
		"bits of a byte are missing":    putVar(9, 800) + put(6, 1, 0) + put(7, 1) + "0",
		"too many bytes":                ahead + put(6, 1, 0) + put(7, 101) + strings.Repeat("01010101", 101),
		"far too many bytes":            ahead + put(6, 1, 0) + put(7, 127) + strings.Repeat("01010101", 127),
		"a byte too much":               ahead + put(6, 1, 0) + put(7, 2) + put(8, 1, 2, 3),
		"a byte of 0 too much":          ahead + put(6, 1, 0) + put(7, 2) + put(8, 1, 2, 0),
		"a byte behind none":            ahead + put(6, 1, 0) + put(7, 0) + put(8, 0),
		"a bit behind all":              ahead + put(6, 1, 0) + put(7, 0) + "1",
		"a bit behind the bytes":        ahead + put(6, 1, 0) + put(7, 1) + put(8, 7) + "1",
	} {
		b := packed(text)
		if _, right := toldOf(b); right {
			t.Fatalf("%s: the model takes it for a piece", what)
		}
		noPiece(t, what, b)
	}
	// Beside them those that are right.
	for what, text := range map[string]string{
		"the least piece":      putVar(1, 0) + put(6, 1, 0) + put(7, 0),
		"the greatest steps":   putVar(top, top-1) + put(6, 1, 0) + put(7, 0),
		"the last one of all":  ahead + put(6, 40, 39) + put(7, 1) + put(8, 255),
		"as many bytes as may": ahead + put(6, 2, 0) + put(7, 100) + strings.Repeat("01010101", 100),
	} {
		if !tellsAs(t, packed(text)) {
			t.Fatalf("%s: the model takes it for no piece", what)
		}
	}
}

// Promise 10.2: all that up to two bytes may be is no piece; of four bytes some are.
func TestToldAllShort(t *testing.T) {
	noPiece(t, "nothing", nil)
	for n := range 1 << 16 {
		if n < 256 {
			noPiece(t, "a byte", []byte{byte(n)})
		}
		noPiece(t, "two bytes", []byte{byte(n >> 8), byte(n)})
		noPiece(t, "three bytes", []byte{0x04, byte(n >> 8), byte(n)})
	}
	pieces := 0
	for n := range 1 << 16 {
		if tellsAs(t, []byte{0x08, byte(n >> 8), byte(n), 0}) {
			pieces++
		}
	}
	// The step is 2, the base 0 or 1; of up to 40 pieces each one may be it; it has no bytes.
	want := 0
	for many := 1; many <= parts; many++ {
		want += 2 * many
	}
	if pieces != want {
		t.Fatalf("of all such four bytes %d are pieces, want %d", pieces, want)
	}
}

// Promise 10.2: what was told is read again, whatever it is.
func TestTellDrawn(t *testing.T) {
	d := die(12)
	for range 3000 {
		p := d.piece()
		told(t, p, packed(telling(p)))
	}
}

// Promise 10.2: each bit turned round, each end cut off, more behind it.
func TestToldTurned(t *testing.T) {
	d := die(13)
	right, wrong := 0, 0
	for range 60 {
		p := d.piece()
		p.Bytes = p.Bytes[:min(len(p.Bytes), d.upTo(12))]
		b, err := Tell(p)
		asks(t, "Tell", err, api.OK)
		for c := range turned(b) {
			if tellsAs(t, c) {
				right++
			} else {
				wrong++
			}
		}
	}
	// A bit within a number, or of the bytes, makes another piece: that must be, too.
	if right < 1000 || wrong < 1000 {
		t.Fatalf("%d right, %d wrong", right, wrong)
	}
}

// P1: whatever the bytes are, and however many, the call ends.
func TestToldAnyBytes(t *testing.T) {
	d := die(14)
	for range 5000 {
		tellsAs(t, d.bytes(d.upTo(140)))
	}
	for _, c := range []byte{0, 0x55, 0xaa, 0xff} {
		for _, many := range []int{100, 4000, 4001, 1 << 20} {
			noPiece(t, fmt.Sprint(many), slices.Repeat([]byte{c}, many))
		}
	}
}

// Promise 10.2: what is cut, told, and read again, is all there was.
func TestCutTellTold(t *testing.T) {
	d := die(15)
	for range 200 {
		b := d.bytes(d.upTo(4001))
		step := max(1, d.number(top))
		l, err := Cut(step, d.number(step-1), b)
		asks(t, "Cut", err, api.OK)
		var all []byte
		for _, p := range l {
			again := told(t, p, packed(telling(p)))
			q, err := Told(again)
			asks(t, "Told", err, api.OK)
			all = append(all, q.Bytes...)
		}
		if !slices.Equal(all, b) {
			t.Fatalf("%x became %x", b, all)
		}
	}
}

// spoil writes into all memory of a list.
func spoil(b []byte) {
	b = b[:cap(b)]
	for i := range b {
		b[i] += 77
	}
}

// P4: pieces share nothing with what was cut, nor with each other; nothing that is handed in is written into.
func TestPiecesAreApart(t *testing.T) {
	d := die(16)
	for _, many := range []int{0, 1, 99, 100, 101, 250, 4000} {
		wide := d.bytes(many + 8)
		was := slices.Clone(wide)
		b := wide[:many]
		l, err := Cut(5, 4, b)
		asks(t, "Cut", err, api.OK)
		for i := range l {
			spoil(l[i].Bytes)
			for j := i + 1; j < len(l); j++ {
				if from := j * whole; !slices.Equal(l[j].Bytes, was[from:min(many, from+whole)]) {
					t.Fatalf("pieces %d and %d of %d bytes share memory", i, j, many)
				}
			}
		}
		if !slices.Equal(wide, was) {
			t.Fatalf("Cut shares memory with %d bytes that it was given", many)
		}
		again, _ := Cut(5, 4, b)
		clear(b)
		var all []byte
		for _, p := range again {
			all = append(all, p.Bytes...)
		}
		if !slices.Equal(all, was[:many]) {
			t.Fatalf("Cut keeps %d bytes that it was given", many)
		}
	}
}

// P4: what is told and read is fresh; what stands behind the bytes does not matter.
func TestTellsAreApart(t *testing.T) {
	d := die(17)
	for range 300 {
		p := d.piece()
		held := slices.Clone(p.Bytes)
		p.Bytes = append(p.Bytes, d.bytes(4)...)[:len(held)]
		b, err := Tell(p)
		asks(t, "Tell", err, api.OK)
		wide := append(slices.Clone(b), d.bytes(3)...)
		was := slices.Clone(wide)
		first, err := Told(wide[:len(b)])
		asks(t, "Told", err, api.OK)
		second, _ := Told(wide[:len(b)])
		spoil(first.Bytes)
		if !slices.Equal(wide, was) || !slices.Equal(second.Bytes, held) || !slices.Equal(p.Bytes, held) {
			t.Fatalf("memory is shared")
		}
		spoil(wide)
		again, _ := Tell(p)
		spoil(b)
		if !slices.Equal(second.Bytes, held) || !slices.Equal(again, was[:len(b)]) {
			t.Fatalf("memory is shared")
		}
	}
}
