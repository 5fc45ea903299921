package bits

import (
	"encoding/hex"
	"slices"
	"strings"
	"testing"

	"gyre/api"
)

// TestExample: the document's example 6.
func TestExample(t *testing.T) {
	var w Writer
	asks(t, "Put", w.Put(5, 3), api.OK)
	asks(t, "Int", w.Int(-70), api.OK)
	holds(t, &w, "101"+"101011"+"000100")
	if got := hex.EncodeToString(w.Bytes()); got != "b588" || w.Many() != 15 {
		t.Fatalf("%s, of %d bits", got, w.Many())
	}
}

func TestZeroValue(t *testing.T) {
	var w Writer
	if w.Many() != 0 || len(w.Bytes()) != 0 {
		t.Fatalf("%d bits at first: %x", w.Many(), w.Bytes())
	}
}

func TestPut(t *testing.T) {
	for _, c := range []struct {
		n, width int
		want     string
	}{
		{0, 0, ""},
		{0, 1, "0"},
		{1, 1, "1"},
		{0, 3, "000"},
		{1, 3, "001"},
		{6, 3, "110"},
		{7, 3, "111"},
		{5, 8, "00000101"},
		{0x1234, 16, "0001001000110100"},
		{0x1234, 13, "1001000110100"},
		{great - 1, 62, strings.Repeat("1", 62)},
		{1 << 61, 62, "1" + strings.Repeat("0", 61)},
		{1, 62, strings.Repeat("0", 61) + "1"},
	} {
		var w Writer
		asks(t, "Put", w.Put(c.n, c.width), api.OK)
		holds(t, &w, c.want)
		// Behind three bits, so that the bytes' ends lie elsewhere.
		w = *filled(t, 3)
		asks(t, "Put", w.Put(c.n, c.width), api.OK)
		holds(t, &w, "111"+c.want)
	}
}

func TestVar(t *testing.T) {
	for _, c := range []struct {
		n    int
		want string
	}{
		{0, "000000"},
		{1, "000001"},
		{31, "011111"},
		{32, "100000" + "000001"},
		{33, "100001" + "000001"},
		{139, "101011" + "000100"},
		{1023, "111111" + "011111"},
		{1024, "100000" + "100000" + "000001"},
		{1<<60 - 1, strings.Repeat("111111", 11) + "011111"},
		{1 << 60, strings.Repeat("100000", 12) + "000001"},
		{great - 1, strings.Repeat("111111", 12) + "000011"},
	} {
		var w Writer
		asks(t, "Var", w.Var(c.n), api.OK)
		holds(t, &w, c.want)
	}
}

func TestInt(t *testing.T) {
	for _, c := range []struct {
		n    int
		want string
	}{
		{0, "000000"},
		{-1, "000001"},
		{1, "000010"},
		{-2, "000011"},
		{15, "011110"},
		{-16, "011111"},
		{16, "100000" + "000001"},
		{-17, "100001" + "000001"},
		{far, strings.Repeat("100000", 12) + "000010"},
		{-far, strings.Repeat("111111", 12) + "000001"},
	} {
		var w Writer
		asks(t, "Int", w.Int(c.n), api.OK)
		holds(t, &w, c.want)
	}
}

// TestWrongNumbers: what may not be written changes nothing.
func TestWrongNumbers(t *testing.T) {
	w := filled(t, 13)
	for _, c := range []struct{ n, width int }{
		{0, -1}, {0, 63}, {0, 64}, {0, 65}, {0, low}, {0, most}, {-1, -1}, {1, 63}, {most, most}, {low, low},
		{1, 0}, {-1, 0}, {-1, 1}, {2, 1}, {8, 3}, {-8, 3}, {256, 8}, {-1, 62}, {great, 62}, {most, 62}, {low, 62}, {low, 0},
	} {
		asks(t, "Put", w.Put(c.n, c.width), api.ErrRange)
	}
	for _, n := range []int{-1, -2, low, great, great + 1, most} {
		asks(t, "Var", w.Var(n), api.ErrRange)
	}
	for _, n := range []int{far + 1, -far - 1, 2 * far, -2 * far, great, -great, most, low, low + 1} {
		asks(t, "Int", w.Int(n), api.ErrRange)
	}
	holds(t, w, strings.Repeat("1", 13))
}

// TestEdgesOfNumbers: each number at which something changes, in each width.
func TestEdgesOfNumbers(t *testing.T) {
	for _, n := range edges() {
		w, p := filled(t, 5), paper{"11111"}
		asks(t, "Var", w.Var(n), p.putVar(n))
		asks(t, "Int", w.Int(n), p.putInt(n))
		for width := -2; width <= 66; width++ {
			asks(t, "Put", w.Put(n, width), p.put(n, width))
		}
		holds(t, w, p.text)
	}
}

// TestLimit: there may be just 8 MaxBytes bits; what does not fit changes nothing, and what fits then still goes in.
func TestLimit(t *testing.T) {
	if room != 8*api.MaxBytes {
		t.Fatalf("8 MaxBytes = %d", 8*api.MaxBytes)
	}
	for left := range 80 {
		w := filled(t, room-left)
		full := strings.Repeat("1", room-left)
		for width := left + 1; width <= 62; width++ {
			asks(t, "Put", w.Put(0, width), api.ErrLimit)
		}
		for pieces := left/6 + 1; pieces <= 13; pieces++ {
			n := 1 << (5 * (pieces - 1))
			asks(t, "Var", w.Var(n), api.ErrLimit)
			if pieces > 1 {
				asks(t, "Int", w.Int(n/2), api.ErrLimit)
				asks(t, "Int", w.Int(-n/2-1), api.ErrLimit)
			}
		}
		holds(t, w, full)
		if left >= 6 {
			n := 1 << (5 * (min(left/6, 13) - 1))
			asks(t, "Var", w.Var(n), api.OK)
			full += varText(large(n))
		}
		for len(full) < room {
			width := min(62, room-len(full))
			asks(t, "Put", w.Put(0, width), api.OK)
			full += strings.Repeat("0", width)
		}
		asks(t, "Put", w.Put(0, 1), api.ErrLimit)
		asks(t, "Var", w.Var(0), api.ErrLimit)
		asks(t, "Int", w.Int(0), api.ErrLimit)
		asks(t, "Put", w.Put(0, 0), api.OK)
		holds(t, w, full)
	}
}

// TestRangeAheadOfLimit: where both apply, ErrRange is told.
func TestRangeAheadOfLimit(t *testing.T) {
	w := filled(t, room)
	for _, width := range []int{-1, 63, most, low} {
		asks(t, "Put", w.Put(0, width), api.ErrRange)
	}
	asks(t, "Put", w.Put(2, 1), api.ErrRange)
	asks(t, "Put", w.Put(-1, 62), api.ErrRange)
	asks(t, "Put", w.Put(1, 0), api.ErrRange)
	asks(t, "Var", w.Var(-1), api.ErrRange)
	asks(t, "Var", w.Var(great), api.ErrRange)
	asks(t, "Int", w.Int(far+1), api.ErrRange)
	asks(t, "Int", w.Int(-far-1), api.ErrRange)
	holds(t, w, strings.Repeat("1", room))
}

// TestBytesAreFresh: neither who changes an answer nor who writes on changes another answer.
func TestBytesAreFresh(t *testing.T) {
	var w Writer
	asks(t, "Put", w.Put(0x155, 9), api.OK)
	a, b := w.Bytes(), w.Bytes()
	for i := range a {
		a[i] = 0xff
	}
	// What lies behind an answer's length is the caller's, too.
	_ = append(a, 0xff)
	holds(t, &w, "101010101")
	asks(t, "Put", w.Put(1<<20-1, 20), api.OK)
	holds(t, &w, "101010101"+strings.Repeat("1", 20))
	if !slices.Equal(b, packed("101010101")) {
		t.Fatalf("an answer became %x", b)
	}
}

// TestCopiesAreApart: a Writer that was copied and its copy do not see each other's bits.
func TestCopiesAreApart(t *testing.T) {
	a := *filled(t, 20)
	b := a
	asks(t, "Put", a.Put(0x155, 9), api.OK)
	asks(t, "Put", b.Put(0x0aa, 9), api.OK)
	holds(t, &a, strings.Repeat("1", 20)+"101010101")
	holds(t, &b, strings.Repeat("1", 20)+"010101010")
}

// TestDrawnWriters: Writers write what the model does, right and wrong numbers, until they are full.
func TestDrawnWriters(t *testing.T) {
	d := die(7)
	for range 30 {
		var w Writer
		var p paper
		for range 50 + d.below(1500) {
			n, width := d.any(), d.below(66)-1
			switch d.below(4) {
			case 0:
				asks(t, "Put", w.Put(n, width), p.put(n, width))
			case 1:
				n &= 1<<(d.below(62)+1) - 1
				asks(t, "Put", w.Put(n, 62), p.put(n, 62))
			case 2:
				asks(t, "Var", w.Var(n), p.putVar(n))
			default:
				asks(t, "Int", w.Int(n), p.putInt(n))
			}
			if w.Many() != len(p.text) {
				t.Fatalf("Many() = %d, want %d", w.Many(), len(p.text))
			}
		}
		holds(t, &w, p.text)
	}
}
