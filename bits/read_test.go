package bits

import (
	"bytes"
	"slices"
	"strings"
	"testing"

	"gyre/api"
)

func TestReadNothing(t *testing.T) {
	for _, b := range [][]byte{nil, {}} {
		r := Read(b)
		if r.Left() != 0 {
			t.Fatalf("%d bits left of nothing", r.Left())
		}
		readsGet(t, r, "", 0)
		readsGet(t, r, "", 1)
		readsVar(t, r, "")
		readsInt(t, r, "")
	}
}

func TestGet(t *testing.T) {
	r := Read([]byte{0xb5, 0x88, 0x01})
	for _, c := range []struct {
		width, want int
		err         api.Errno
		left        int
	}{
		{-1, 0, api.ErrRange, 24},
		{63, 0, api.ErrRange, 24},
		{low, 0, api.ErrRange, 24},
		{most, 0, api.ErrRange, 24},
		{25, 0, api.ErrNone, 24},
		{62, 0, api.ErrNone, 24},
		{0, 0, api.OK, 24},
		{3, 5, api.OK, 21},
		{6, 43, api.OK, 15},
		{16, 0, api.ErrNone, 15},
		{1, 0, api.OK, 14},
		{14, 1<<11 + 1, api.OK, 0},
		{1, 0, api.ErrNone, 0},
		{0, 0, api.OK, 0},
		{63, 0, api.ErrRange, 0},
		{-1, 0, api.ErrRange, 0},
	} {
		n, err := r.Get(c.width)
		asks(t, "Get", err, c.err)
		if n != c.want || r.Left() != c.left {
			t.Fatalf("Get(%d) = %d, want %d, and %d left, want %d", c.width, n, c.want, r.Left(), c.left)
		}
	}
}

func TestGetGreatest(t *testing.T) {
	r := Read(bytes.Repeat([]byte{0xff}, 8))
	if n, err := r.Get(62); n != great-1 || err != nil || r.Left() != 2 {
		t.Fatalf("Get(62) = %d, %v, and %d left", n, err, r.Left())
	}
}

// number13 is a number of 13 pieces: twelve equal ones, and a last one.
func number13(piece, last string) string { return strings.Repeat(piece, 12) + last }

func TestReadVar(t *testing.T) {
	for _, c := range []struct {
		text string
		want int
		err  api.Errno
	}{
		{"000000", 0, api.OK},
		{"011111", 31, api.OK},
		{"100000" + "000001", 32, api.OK},
		{number13("100000", "000001"), 1 << 60, api.OK},
		{number13("111111", "000011"), great - 1, api.OK},
		// The bits end within it.
		{"00000", 0, api.ErrNone},
		{"1", 0, api.ErrNone},
		{"111111", 0, api.ErrNone},
		{"100000" + "00000", 0, api.ErrNone},
		{number13("111111", ""), 0, api.ErrNone},
		{number13("111111", "1"), 0, api.ErrNone},
		{number13("111111", "11111"), 0, api.ErrNone},
		{number13("100000", "00000"), 0, api.ErrNone},
		// It has pieces that it needs not.
		{"100000" + "000000", 0, api.ErrForm},
		{"111111" + "000000", 0, api.ErrForm},
		{"111111" + "100000" + "000000", 0, api.ErrForm},
		{number13("111111", "000000"), 0, api.ErrForm},
		// It is too great.
		{number13("100000", "000100"), 0, api.ErrForm},
		{number13("111111", "011111"), 0, api.ErrForm},
		{number13("100000", "010000"), 0, api.ErrForm},
		// It would have more than 13 pieces: told at the thirteenth, whether or not more bits are there.
		{number13("111111", "100001"), 0, api.ErrForm},
		{number13("100000", "100000"), 0, api.ErrForm},
		{number13("100000", "100000") + "000001", 0, api.ErrForm},
		{number13("100000", "100000") + "00000", 0, api.ErrForm},
	} {
		r := reader(t, c.text)
		n, err := r.Var()
		asks(t, "Var of "+c.text, err, c.err)
		if n != c.want {
			t.Fatalf("Var of %s = %d, want %d", c.text, n, c.want)
		}
		if left := r.Left(); c.err == api.OK && left != 0 || c.err != api.OK && left != len(c.text) {
			t.Fatalf("Var of %s: %d left", c.text, left)
		}
	}
}

func TestReadInt(t *testing.T) {
	for _, c := range []struct {
		text string
		want int
		err  api.Errno
	}{
		{"000000", 0, api.OK},
		{"000001", -1, api.OK},
		{"000010", 1, api.OK},
		{"101011" + "000100", -70, api.OK},
		{number13("100000", "000010"), far, api.OK},
		{number13("111111", "000001"), -far, api.OK},
		{number13("100000", "000001"), far / 2, api.OK},
		{"10101", 0, api.ErrNone},
		{"101011", 0, api.ErrNone},
		{number13("111111", "00001"), 0, api.ErrNone},
		{number13("111111", "11111"), 0, api.ErrNone},
		{"101011" + "000000", 0, api.ErrForm},
		{number13("111111", "000000"), 0, api.ErrForm},
		// -2^60 - 1, 2^60 + 1, and what Var writes up to its greatest number.
		{"100001" + strings.Repeat("100000", 11) + "000010", 0, api.ErrForm},
		{"100010" + strings.Repeat("100000", 11) + "000010", 0, api.ErrForm},
		{strings.Repeat("100000", 11) + "110000" + "000010", 0, api.ErrForm},
		{number13("100000", "000011"), 0, api.ErrForm},
		{number13("111111", "000011"), 0, api.ErrForm},
		{number13("100000", "000100"), 0, api.ErrForm},
		{number13("111111", "011111"), 0, api.ErrForm},
		{number13("100000", "100000"), 0, api.ErrForm},
		{number13("100000", "100010") + "000001", 0, api.ErrForm},
	} {
		r := reader(t, c.text)
		n, err := r.Int()
		asks(t, "Int of "+c.text, err, c.err)
		if n != c.want {
			t.Fatalf("Int of %s = %d, want %d", c.text, n, c.want)
		}
		if left := r.Left(); c.err == api.OK && left != 0 || c.err != api.OK && left != len(c.text) {
			t.Fatalf("Int of %s: %d left", c.text, left)
		}
	}
}

// TestShortBytes: all that two bytes may be, number by number.
func TestShortBytes(t *testing.T) {
	for n := range 1 << 16 {
		b := []byte{byte(n >> 8), byte(n)}
		whole := unpacked(b)
		for text, r := whole, Read(b); ; {
			rest := readsVar(t, r, text)
			if rest == text {
				break
			}
			text = rest
		}
		for text, r := whole, Read(b); ; {
			rest := readsInt(t, r, text)
			if rest == text {
				break
			}
			text = rest
		}
	}
}

// TestLastPieces: all that may stand in the last pieces of the greatest numbers, and each place at which the bits may end there.
func TestLastPieces(t *testing.T) {
	for _, ahead := range []string{
		strings.Repeat("100000", 11), strings.Repeat("111111", 11),
		"100001" + strings.Repeat("100000", 10), strings.Repeat("100000", 10) + "100001", strings.Repeat("100000", 5) + "101000" + strings.Repeat("100000", 5),
	} {
		for _, twelfth := range []int{0, 1, 31, 32, 33, 48, 63} {
			for last := range 64 {
				text := ahead + ones(large(twelfth), 6) + ones(large(last), 6) + "000001"
				for end := 66; end <= len(text); end++ {
					readsVar(t, reader(t, text[:end]), text[:end])
					readsInt(t, reader(t, text[:end]), text[:end])
				}
			}
		}
	}
}

// TestAnyBytes: what drawn bytes tell, read in any order, with bits that ask for long numbers among them.
func TestAnyBytes(t *testing.T) {
	d := die(11)
	for range 3000 {
		b := make([]byte, d.below(60))
		long := d.below(2) == 0
		for i := range b {
			b[i] = byte(d.next())
			if long {
				b[i] |= byte(d.next() | d.next())
			}
		}
		text, r := unpacked(b), Read(b)
		for range 40 {
			switch d.below(3) {
			case 0:
				text = readsGet(t, r, text, d.below(67)-2)
			case 1:
				text = readsVar(t, r, text)
			default:
				text = readsInt(t, r, text)
			}
		}
	}
}

// note is something that was written: by which call, which number, in how many bits.
type note struct{ call, n, width int }

// written writes drawn numbers, as many as go in: what was written.
func written(t *testing.T, d *die, w *Writer, many int) []note {
	t.Helper()
	var notes []note
	for range many {
		x := note{call: d.below(3), n: d.any(), width: d.below(63)}
		var err error
		switch x.call {
		case 0:
			x.n &= 1<<x.width - 1
			err = w.Put(x.n, x.width)
		case 1:
			x.n &= great - 1
			err = w.Var(x.n)
		default:
			x.n %= far + 1
			err = w.Int(x.n)
		}
		if err == nil {
			notes = append(notes, x)
		} else {
			asks(t, "a Writer", err, api.ErrLimit)
		}
	}
	return notes
}

// TestReadAgain: what was written is read again, by the same calls.
func TestReadAgain(t *testing.T) {
	d := die(13)
	for range 200 {
		var w Writer
		notes := written(t, &d, &w, d.below(1500))
		r := Read(w.Bytes())
		for i, x := range notes {
			var n int
			var err error
			switch x.call {
			case 0:
				n, err = r.Get(x.width)
			case 1:
				n, err = r.Var()
			default:
				n, err = r.Int()
			}
			if n != x.n || err != nil {
				t.Fatalf("number %d, %v, is read as %d, %v", i, x, n, err)
			}
		}
		fill := r.Left()
		if n, err := r.Get(fill); fill > 7 || n != 0 || err != nil {
			t.Fatalf("behind all %d bits, %d, %v", fill, n, err)
		}
	}
}

// TestEdgesAreReadAgain: each number at which something changes, by each call that writes it.
func TestEdgesAreReadAgain(t *testing.T) {
	for _, n := range edges() {
		var w Writer
		put, long, sign := w.Put(n, 62), w.Var(n), w.Int(n)
		r := Read(w.Bytes())
		for _, c := range []struct {
			wrote error
			read  func() (int, error)
		}{
			{put, func() (int, error) { return r.Get(62) }},
			{long, r.Var},
			{sign, r.Int},
		} {
			if c.wrote != nil {
				continue
			}
			if got, err := c.read(); got != n || err != nil {
				t.Fatalf("%d is read as %d, %v", n, got, err)
			}
		}
	}
}

// TestBytesAreNotKept: who changes the bytes later changes no Reader, and no Reader changes them, nor what lies behind them.
func TestBytesAreNotKept(t *testing.T) {
	behind := []byte{0x12, 0x34, 0x56, 0x78, 0x9a}
	b := behind[:3]
	r, other := Read(b), Read(b)
	if r.Left() != 24 {
		t.Fatalf("%d bits of three bytes", r.Left())
	}
	readsGet(t, r, unpacked(b), 7)
	if !slices.Equal(behind, []byte{0x12, 0x34, 0x56, 0x78, 0x9a}) {
		t.Fatalf("the bytes became %x", behind)
	}
	clear(behind)
	readsGet(t, r, unpacked([]byte{0x12, 0x34, 0x56})[7:], 17)
	// The other one has read nothing yet.
	readsGet(t, other, unpacked([]byte{0x12, 0x34, 0x56}), 24)
}

// TestLongBytes: a Reader takes more bytes than a Writer writes.
func TestLongBytes(t *testing.T) {
	b := make([]byte, 3*api.MaxBytes+1)
	b[len(b)-1] = 0x05
	r := Read(b)
	for left := 8 * len(b); left > 8; left -= 6 {
		if n, err := r.Var(); n != 0 || err != nil || r.Left() != left-6 {
			t.Fatalf("Var() = %d, %v, with %d left, then %d", n, err, left, r.Left())
		}
	}
	readsGet(t, r, "00000101", 2)
	readsInt(t, r, "000101")
}
