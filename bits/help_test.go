package bits

import (
	"math"
	"math/big"
	"slices"
	"strings"
	"testing"

	"gyre/api"
	"gyre/plain"
)

const (
	most  = math.MaxInt
	low   = math.MinInt
	room  = 32000   // bits that a Writer may have
	great = 1 << 62 // the first number that Var does not write
	far   = 1 << 60 // the last number that Int writes
)

// die is numbers that look drawn, the same each time.
type die uint64

func (d *die) next() uint64 {
	*d = *d*6364136223846793005 + 1442695040888963407
	return uint64(*d >> 20)
}

// below is a number from 0 to below n.
func (d *die) below(n int) int { return int(d.next() % uint64(n)) }

// any is a number of any size and either sign.
func (d *die) any() int {
	n := int(d.next() << 20 >> d.below(64))
	if d.below(2) == 0 {
		return -n
	}
	return n
}

// edges are the numbers at which something changes, each with those beside it.
func edges() []int {
	l := []int{low, low + 1, most - 1, most}
	for width := range 63 {
		n := 1 << width
		l = append(l, n-1, n, n+1, 1-n, -n, -n-1)
	}
	slices.Sort(l)
	return slices.Compact(l)
}

func large(n int) *big.Int { return big.NewInt(int64(n)) }

// power is 2^width.
func power(width int) *big.Int { return new(big.Int).Lsh(big.NewInt(1), uint(width)) }

// from0 tells whether a number is from 0 to below 2^width.
func from0(n *big.Int, width int) bool { return n.Sign() >= 0 && n.Cmp(power(width)) < 0 }

// ones is a number in just so many bits, as a text of 0 and 1.
func ones(n *big.Int, width int) string {
	if width == 0 {
		return ""
	}
	text := n.Text(2)
	return strings.Repeat("0", width-len(text)) + text
}

// varText is what Var writes, as the document tells it.
func varText(n *big.Int) string {
	text, n := "", new(big.Int).Set(n)
	for {
		part := new(big.Int)
		n.QuoRem(n, big.NewInt(32), part)
		if n.Sign() == 0 {
			return text + "0" + ones(part, 5)
		}
		text += "1" + ones(part, 5)
	}
}

// signed is the number that Int hands to Var.
func signed(n int) *big.Int {
	twice := new(big.Int).Mul(large(n), big.NewInt(2))
	if n >= 0 {
		return twice
	}
	return twice.Sub(twice.Neg(twice), big.NewInt(1))
}

// paper is a Writer as the document tells it: a text of 0 and 1.
type paper struct{ text string }

func (p *paper) write(text string) api.Errno {
	if len(p.text)+len(text) > room {
		return api.ErrLimit
	}
	p.text += text
	return api.OK
}

func (p *paper) put(n, width int) api.Errno {
	if width < 0 || width > 62 || !from0(large(n), width) {
		return api.ErrRange
	}
	return p.write(ones(large(n), width))
}

func (p *paper) putVar(n int) api.Errno {
	if !from0(large(n), 62) {
		return api.ErrRange
	}
	return p.write(varText(large(n)))
}

func (p *paper) putInt(n int) api.Errno {
	if large(n).CmpAbs(power(60)) > 0 {
		return api.ErrRange
	}
	return p.write(varText(signed(n)))
}

// packed is a text of 0 and 1 as bytes, filled up with 0.
func packed(text string) []byte {
	var b []byte
	for len(text) > 0 {
		n := 0
		for i := range 8 {
			n *= 2
			if i < len(text) && text[i] == '1' {
				n++
			}
		}
		b = append(b, byte(n))
		text = text[min(8, len(text)):]
	}
	return b
}

// unpacked is bytes as a text of 0 and 1.
func unpacked(b []byte) string {
	text := ""
	for _, c := range b {
		text += ones(large(int(c)), 8)
	}
	return text
}

// The model's reads: what the bits that a text begins with tell, and how many they are.

func getText(text string, width int) (int, int, api.Errno) {
	switch {
	case width < 0 || width > 62:
		return 0, 0, api.ErrRange
	case width > len(text):
		return 0, 0, api.ErrNone
	case width == 0:
		return 0, 0, api.OK
	}
	n, _ := new(big.Int).SetString(text[:width], 2)
	return int(n.Int64()), width, api.OK
}

// number goes on as long as there is a number up to last that Var writes with such a beginning.
func number(text string, last *big.Int) (*big.Int, int, api.Errno) {
	n := new(big.Int)
	for at := 0; ; at += 6 {
		if len(text) < at+6 {
			return nil, 0, api.ErrNone
		}
		part, _ := new(big.Int).SetString(text[at+1:at+6], 2)
		n.Add(n, part.Mul(part, power(at/6*5)))
		if text[at] == '0' {
			if n.Cmp(last) > 0 || varText(n) != text[:at+6] {
				return nil, 0, api.ErrForm
			}
			return n, at + 6, api.OK
		}
		least := new(big.Int).Add(n, power(at/6*5+5))
		if least.Cmp(last) > 0 {
			return nil, 0, api.ErrForm
		}
	}
}

func getVar(text string) (int, int, api.Errno) {
	n, width, e := number(text, new(big.Int).Sub(power(62), big.NewInt(1)))
	if e != api.OK {
		return 0, 0, e
	}
	return int(n.Int64()), width, api.OK
}

func getInt(text string) (int, int, api.Errno) {
	n, width, e := number(text, power(61))
	if e != api.OK {
		return 0, 0, e
	}
	half, odd := new(big.Int).QuoRem(n, big.NewInt(2), new(big.Int))
	if odd.Sign() != 0 {
		half.Add(half, odd)
		half.Neg(half)
	}
	return int(half.Int64()), width, api.OK
}

// asks fails unless an error is that one, without a place.
func asks(t *testing.T, what string, err error, want api.Errno) {
	t.Helper()
	if e, bare := plain.Bare(err); e != want || !bare {
		t.Fatalf("%s: %v, want %v", what, err, want)
	}
}

// holds fails unless a Writer has just the bits of a text.
func holds(t *testing.T, w *Writer, text string) {
	t.Helper()
	if w.Many() != len(text) {
		t.Fatalf("Many() = %d, want %d", w.Many(), len(text))
	}
	if got, want := w.Bytes(), packed(text); !slices.Equal(got, want) {
		t.Fatalf("Bytes() = %x, want %x", got, want)
	}
}

// filled is a Writer of so many bits, all 1.
func filled(t *testing.T, many int) *Writer {
	t.Helper()
	var w Writer
	for w.Many() < many {
		width := min(62, many-w.Many())
		asks(t, "Put", w.Put(1<<width-1, width), api.OK)
	}
	return &w
}

// reader is a Reader that has just the bits of a text left, behind some bits that were read already.
func reader(t *testing.T, text string) *Reader {
	t.Helper()
	ahead := (8 - len(text)%8) % 8
	r := Read(packed(strings.Repeat("1", ahead) + text))
	if n, err := r.Get(ahead); n != 1<<ahead-1 || err != nil || r.Left() != len(text) {
		t.Fatalf("Get(%d) = %d, %v, and %d left, want %d", ahead, n, err, r.Left(), len(text))
	}
	return r
}

// reads fails unless a Reader, which has a text left, tells by a call what the model tells of that text, and has the rest left then: the rest.
func reads(t *testing.T, r *Reader, text, what string, call func() (int, error), model func(text string) (int, int, api.Errno)) string {
	t.Helper()
	want, width, e := model(text)
	n, err := call()
	asks(t, what+" of "+text, err, e)
	if n != want {
		t.Fatalf("%s of %s = %d, want %d", what, text, n, want)
	}
	if r.Left() != len(text)-width {
		t.Fatalf("%s of %s: %d left, want %d", what, text, r.Left(), len(text)-width)
	}
	return text[width:]
}

func readsGet(t *testing.T, r *Reader, text string, width int) string {
	t.Helper()
	return reads(t, r, text, "Get", func() (int, error) { return r.Get(width) }, func(text string) (int, int, api.Errno) { return getText(text, width) })
}

func readsVar(t *testing.T, r *Reader, text string) string {
	t.Helper()
	return reads(t, r, text, "Var", r.Var, getVar)
}

func readsInt(t *testing.T, r *Reader, text string) string {
	t.Helper()
	return reads(t, r, text, "Int", r.Int, getInt)
}
