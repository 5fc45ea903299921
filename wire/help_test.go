package wire

import (
	"math"
	"slices"
	"strings"
	"testing"

	"gyre/api"
	"gyre/plain"
)

const (
	top   = 70368744177664 // 2^46: the greatest number
	quick = 6553600        // 100 times One: how far a push goes
	whole = 100            // bytes of a piece
	parts = 40             // pieces of what becomes of a view
	most  = math.MaxInt
	low   = math.MinInt
)

func vec(x, y, z int) api.Vec { return api.Vec{X: x, Y: y, Z: z} }

// asks fails unless an error is that one, without a place.
func asks(t *testing.T, what string, err error, want api.Errno) {
	t.Helper()
	if e, bare := plain.Bare(err); e != want || !bare {
		t.Fatalf("%s: %v, want %v", what, err, want)
	}
}

// The chapter once more, in texts of 0 and 1.

// put is each number in just so many bits.
func put(width int, numbers ...int) string {
	text := ""
	for _, n := range numbers {
		for i := range width {
			text += string(rune('0' + n>>(width-1-i)&1))
		}
	}
	return text
}

// putVar is 6.1's Var, of each number.
func putVar(numbers ...int) string {
	text := ""
	for _, n := range numbers {
		for ; n >= 32; n /= 32 {
			text += "1" + put(5, n%32)
		}
		text += "0" + put(5, n)
	}
	return text
}

// putInt is 6.1's Int, of each number.
func putInt(numbers ...int) string {
	text := ""
	for _, n := range numbers {
		if n < 0 {
			text += putVar(-2*n - 1)
		} else {
			text += putVar(2 * n)
		}
	}
	return text
}

// packed is a text of 0 and 1 as bytes, filled up with 0.
func packed(text string) []byte {
	b := make([]byte, (len(text)+7)/8)
	for i, c := range text {
		if c == '1' {
			b[i/8] += 128 >> (i % 8)
		}
	}
	return b
}

// page is what is not read yet of bytes, as a text of 0 and 1, and whether it is wrong so far.
type page struct {
	text  string
	wrong bool
}

func pageOf(b []byte) *page {
	var text strings.Builder
	for _, c := range b {
		text.WriteString(put(8, int(c)))
	}
	return &page{text: text.String()}
}

func (p *page) get(width int) int {
	if p.wrong = p.wrong || len(p.text) < width; p.wrong {
		return 0
	}
	n := 0
	for _, c := range p.text[:width] {
		n = 2*n + int(c-'0')
	}
	p.text = p.text[width:]
	return n
}

// getVar takes as many pieces as say that there are more: a number up to last, which must not end with a piece that it needs not.
func (p *page) getVar(last int) int {
	n := 0
	for i := 0; ; i++ {
		more, part := p.get(1), p.get(5)
		if p.wrong = p.wrong || i > 11 || i > 0 && more == 0 && part == 0; p.wrong {
			return 0
		}
		n += part << (5 * i)
		if more == 0 {
			p.wrong = n > last
			return n
		}
	}
}

func (p *page) getInt(last int) int {
	n := p.getVar(2 * last)
	if n%2 == 1 {
		return -(n + 1) / 2
	}
	return n / 2
}

// ends tells whether all is right, and nothing is left but what fills the last byte up.
func (p *page) ends() bool { return !p.wrong && len(p.text) < 8 && !strings.Contains(p.text, "1") }

// asking is the bits of a command that may be.
func asking(c Command) string {
	text := putVar(c.Token, c.Number, c.Seen)
	switch c.Kind {
	case 0:
		return text + "00"
	case 1:
		return text + "01" + putVar(c.Body) + putInt(c.Way.X, c.Way.Y, c.Way.Z)
	}
	return text + "10" + putVar(c.Body)
}

// askedFor is the command that bytes are, asked sentence by sentence; false: none.
func askedFor(b []byte) (Command, bool) {
	p := pageOf(b)
	c := Command{Token: p.getVar(top), Number: p.getVar(top), Seen: p.getVar(top), Kind: p.get(2)}
	if c.Kind > 0 {
		c.Body = p.getVar(top)
	}
	if c.Kind == 1 {
		c.Way = vec(p.getInt(quick), p.getInt(quick), p.getInt(quick))
	}
	if !p.ends() || c.Kind == 3 {
		return Command{}, false
	}
	return c, true
}

// telling is the bits of a piece that may be.
func telling(p Piece) string {
	text := putVar(p.Step, p.Base) + put(6, p.Many, p.Index) + put(7, len(p.Bytes))
	for _, c := range p.Bytes {
		text += put(8, int(c))
	}
	return text
}

// toldOf is the piece that bytes are, asked sentence by sentence; false: none.
func toldOf(b []byte) (Piece, bool) {
	p := pageOf(b)
	piece := Piece{Step: p.getVar(top), Base: p.getVar(top), Many: p.get(6), Index: p.get(6)}
	long := p.get(7)
	for range long {
		piece.Bytes = append(piece.Bytes, byte(p.get(8)))
	}
	right := piece.Step > 0 && piece.Base < piece.Step && piece.Many > 0 && piece.Many <= 40 && piece.Index < piece.Many && long <= 100
	if !p.ends() || !right {
		return Piece{}, false
	}
	return piece, true
}

// same tells whether two pieces are the same.
func same(p, q Piece) bool {
	return p.Step == q.Step && p.Base == q.Base && p.Index == q.Index && p.Many == q.Many && slices.Equal(p.Bytes, q.Bytes)
}

// asked fails unless Ask writes a command just so, and Asked reads of it what its kind has.
func asked(t *testing.T, c Command, want []byte) []byte {
	t.Helper()
	b, err := Ask(c)
	asks(t, "Ask", err, api.OK)
	if !slices.Equal(b, want) {
		t.Fatalf("Ask(%v) = %x, want %x", c, b, want)
	}
	got, err := Asked(b)
	asks(t, "Asked", err, api.OK)
	if c.Kind == 0 {
		c.Body = 0
	}
	if c.Kind != 1 {
		c.Way = vec(0, 0, 0)
	}
	if got != c {
		t.Fatalf("Asked(%x) = %v, want %v", b, got, c)
	}
	return b
}

// told fails unless Tell writes a piece just so, and Told reads it again.
func told(t *testing.T, p Piece, want []byte) []byte {
	t.Helper()
	b, err := Tell(p)
	asks(t, "Tell", err, api.OK)
	if !slices.Equal(b, want) {
		t.Fatalf("Tell(%v) = %x, want %x", p, b, want)
	}
	got, err := Told(b)
	asks(t, "Told", err, api.OK)
	if !same(got, p) {
		t.Fatalf("Told(%x) = %v, want %v", b, got, p)
	}
	return b
}

// askFails fails unless Ask tells just that error, and nothing beside it.
func askFails(t *testing.T, c Command, want api.Errno) {
	t.Helper()
	b, err := Ask(c)
	if asks(t, "Ask", err, want); b != nil {
		t.Fatalf("Ask(%v) = %x beside an error", c, b)
	}
}

// tellFails fails unless Tell takes a piece for none that may be.
func tellFails(t *testing.T, p Piece) {
	t.Helper()
	b, err := Tell(p)
	if asks(t, "Tell", err, api.ErrArg); b != nil {
		t.Fatalf("Tell(%v) = %x beside an error", p, b)
	}
}

// noCommand fails unless bytes are taken for no command.
func noCommand(t *testing.T, what string, b []byte) {
	t.Helper()
	c, err := Asked(b)
	if asks(t, what, err, api.ErrForm); c != (Command{}) {
		t.Fatalf("%s: Asked(%x) = %v beside an error", what, b, c)
	}
}

// noPiece fails unless bytes are taken for no piece.
func noPiece(t *testing.T, what string, b []byte) {
	t.Helper()
	p, err := Told(b)
	if asks(t, what, err, api.ErrForm); !same(p, Piece{}) {
		t.Fatalf("%s: Told(%x) = %v beside an error", what, b, p)
	}
}

// asksAs fails unless bytes are the command that the model takes them for: whether they are one.
func asksAs(t *testing.T, b []byte) bool {
	t.Helper()
	c, right := askedFor(b)
	if right {
		asked(t, c, b)
	} else {
		noCommand(t, "Asked", b)
	}
	return right
}

// tellsAs fails unless bytes are the piece that the model takes them for: whether they are one.
func tellsAs(t *testing.T, b []byte) bool {
	t.Helper()
	p, right := toldOf(b)
	if right {
		told(t, p, b)
	} else {
		noPiece(t, "Told", b)
	}
	return right
}

// turned goes through bytes that come of others: each bit turned round, each end cut off, one byte more.
func turned(b []byte) func(yield func([]byte) bool) {
	return func(yield func([]byte) bool) {
		for i := range 8 * len(b) {
			c := slices.Clone(b)
			c[i/8] ^= 128 >> (i % 8)
			if !yield(c) {
				return
			}
		}
		for i := range b {
			if !yield(b[:i]) || !yield(b[i+1:]) {
				return
			}
		}
		for _, more := range []byte{0, 1, 128, 255} {
			if !yield(append(slices.Clone(b), more)) || !yield(append([]byte{more}, b...)) {
				return
			}
		}
	}
}

// die tells numbers that look drawn, the same each time.
type die uint64

func (d *die) upTo(many int) int {
	*d = *d*6364136223846793005 + 1442695040888963407
	return int(uint64(*d>>12) % uint64(many))
}

// number is one from 0 to last: of any size, often an end.
func (d *die) number(last int) int {
	if d.upTo(6) == 0 {
		return []int{0, last}[d.upTo(2)]
	}
	return min(last, d.upTo(1<<(1+d.upTo(47))))
}

// part is a number as far as a push goes, either way.
func (d *die) part() int { return d.number(quick) * (1 - 2*d.upTo(2)) }

func (d *die) command() Command {
	return Command{Token: d.number(top), Number: d.number(top), Seen: d.number(top), Kind: d.upTo(3), Body: d.number(top), Way: vec(d.part(), d.part(), d.part())}
}

func (d *die) bytes(many int) []byte {
	b := make([]byte, many)
	for i := range b {
		b[i] = byte(d.upTo(256))
	}
	return b
}

func (d *die) piece() Piece {
	p := Piece{Step: max(1, d.number(top)), Many: 1 + d.upTo(parts), Bytes: d.bytes(d.upTo(whole + 1))}
	p.Base, p.Index = d.number(p.Step-1), d.upTo(p.Many)
	return p
}
