package snap

import (
	"slices"
	"strings"
	"testing"

	"gyre/api"
)

// zeros are the Ints of so many numbers that are 0.
func zeros(many int) string { return strings.Repeat("000000", many) }

// Promise 8.2: what no Delta tells makes no view, told bit by bit.
func TestApplyWrongBits(t *testing.T) {
	from := View{{Id: 1}, {Id: 3, Kind: 5, Size: vec(wide, 0, 0), At: vec(0, -wide, 0), Speed: vec(0, 0, 7)}, {Id: wide, At: vec(1, 1, 1)}}
	for what, text := range map[string]string{
		"nothing at all":                             "",
		"no end":                                     "00000000",
		"gone: who is not there":                     "00" + putVar(1) + "11",
		"gone: behind all":                           "00" + putVar(wide) + "11",
		"gone: nearly behind all":                    "00" + putVar(wide-2) + "11",
		"gone: the greatest number, twice":           strings.Repeat("00"+putVar(1<<62-1), 2) + "11",
		"gone: the greatest number, until it is one": strings.Repeat("00"+putVar(1<<62-1), 4) + "00" + putVar(0) + "11",
		"gone: a number of pieces that it needs not": "00" + "100000" + "000000" + "11",
		"gone: a number that no Var tells":           "00" + strings.Repeat("111111", 13) + "000001" + "11",
		"came: who is there":                         "01" + putVar(0) + "001" + zeros(9) + "11",
		"came: who is there, just so":                "01" + putVar(0) + "000" + zeros(9) + "11",
		"came: behind all":                           "01" + putVar(wide) + "001" + zeros(9) + "11",
		"came: too large":                            "01" + putVar(1) + "001" + putInt(wide+1) + zeros(8) + "11",
		"came: too far":                              "01" + putVar(1) + "001" + zeros(4) + putInt(-wide-1) + zeros(4) + "11",
		"came: too fast":                             "01" + putVar(1) + "001" + zeros(8) + putInt(1<<60) + "11",
		"came: beyond what Int tells":                "01" + putVar(1) + "001" + zeros(8) + putVar(1<<61+1) + "11",
		"came: cut in its number":                    "01" + "10",
		"came: cut in its kind":                      "01" + putVar(1) + "00",
		"came: cut in its size":                      "01" + putVar(1) + "001" + zeros(2) + "00000",
		"came: one number is missing":                "01" + putVar(1) + "001" + zeros(8) + "11",
		"came: one number is too much":               "01" + putVar(1) + "001" + zeros(10) + "11",
		"changed: who is not there":                  "10" + putVar(1) + "010" + putInt(1, 0, 0) + "11",
		"changed: nobody, wholly":                    "10" + putVar(1) + "111" + "001" + putInt(1, 1, 1, 1, 1, 1, 1, 1, 1) + "11",
		"changed: behind all":                        "10" + putVar(wide) + "010" + putInt(1, 0, 0) + "11",
		"changed: in nothing":                        "10" + putVar(0) + "000" + "11",
		"changed: to the same form":                  "10" + putVar(2) + "100" + "101" + zeros(3) + "11",
		"changed: to the same place":                 "10" + putVar(0) + "010" + zeros(3) + "11",
		"changed: to the same speed":                 "10" + putVar(0) + "001" + zeros(3) + "11",
		"changed: form, and to the same place":       "10" + putVar(0) + "110" + "001" + zeros(3) + zeros(3) + "11",
		"changed: place, and to the same form":       "10" + putVar(0) + "110" + "000" + zeros(3) + putInt(1, 0, 0) + "11",
		"changed: too large":                         "10" + putVar(2) + "100" + "101" + putInt(1, 0, 0) + "11",
		"changed: too far":                           "10" + putVar(2) + "010" + putInt(0, -1, 0) + "11",
		"changed: too fast":                          "10" + putVar(2) + "001" + putInt(0, 0, wide-6) + "11",
		"changed: as far as Int goes":                "10" + putVar(2) + "010" + putInt(0, -1<<60, 0) + "11",
		"changed: cut in its parts":                  "10" + putVar(2) + "01",
		"told twice":                                 "00" + putVar(0) + "00" + putVar(1<<62-1) + "11",
		"more behind the end":                        "11" + "00000000",
		"a bit behind the end":                       "11" + "000001",
		"the end twice":                              "1111",
		"a change behind the end":                    "11" + "00000000" + "11",
	} {
		b := packed(text)
		if _, right := made(from, b); right {
			t.Fatalf("%s: the model makes a view of it", what)
		}
		makesNone(t, what, from, b)
	}
	// Beside them those that are right.
	for what, text := range map[string]string{
		"gone: the last one":              "00" + putVar(wide-1) + "11",
		"came: next to the last one":      "01" + putVar(wide-2) + "111" + putInt(wide, -wide, 0, 0, 0, wide, -wide, 0, 0) + "11",
		"changed: as far as it goes":      "10" + putVar(2) + "010" + putInt(0, 2*wide, 0) + "11",
		"changed: as large as it goes":    "10" + putVar(2) + "100" + "101" + putInt(-2*wide, 0, 0) + "11",
		"changed: as fast as it goes":     "10" + putVar(2) + "001" + putInt(0, 0, wide-7) + "11",
		"changed: kind alone":             "10" + putVar(2) + "100" + "110" + zeros(3) + "11",
		"changed: the last number of all": "10" + putVar(0) + "001" + putInt(0, 0, 1) + "11",
	} {
		if !makes(t, from, packed(text)) {
			t.Fatalf("%s: no view is made of it", what)
		}
	}
}

// Promise 8.2: at most MaxBodies come of it.
func TestApplyMany(t *testing.T) {
	new := "01" + putVar(70) + "001" + zeros(9)
	makesNone(t, "one more", counted(60), packed(new+"11"))
	makesNone(t, "many more", nil, packed(strings.Repeat(new, 61)+"11"))
	makesNone(t, "very many more", nil, packed(strings.Repeat(new, 400)+"11"))
	for _, c := range []struct {
		from View
		text string
	}{
		{counted(59), new + "11"}, {counted(60), "00" + putVar(0) + new + "11"}, {nil, strings.Repeat(new, 60) + "11"},
	} {
		if !makes(t, c.from, packed(c.text)) {
			t.Fatalf("no view is made of %v", c.from)
		}
	}
}

// Promise 8.2: all that up to two bytes can be.
func TestApplyAllShort(t *testing.T) {
	for _, from := range []View{nil, {{Id: 1}}, {{Id: 1}, {Id: 2, Kind: 3, At: vec(1, 2, 3)}}, counted(34)[30:]} {
		makes(t, from, nil)
		made := 0
		for n := range 1 << 16 {
			if n < 256 {
				makes(t, from, []byte{byte(n)})
			}
			if makes(t, from, []byte{byte(n >> 8), byte(n)}) {
				made++
			}
		}
		// Two bytes have room for one that goes, and for no other change.
		if made != len(from) {
			t.Fatalf("of all two bytes %d make a view of %v, want %d", made, from, len(from))
		}
	}
}

// Promise 8.2: each bit turned round, each piece cut off, more behind it.
func TestApplyTurnedBits(t *testing.T) {
	d := die(6)
	right := 0
	for range 30 {
		from := d.view(6)
		to := d.other(from, 9)
		b, err := Delta(from, to)
		asks(t, "Delta", err, api.OK)
		for i := range 8 * len(b) {
			c := slices.Clone(b)
			c[i/8] ^= 128 >> (i % 8)
			if makes(t, from, c) {
				right++
			}
		}
		for i := range b {
			makesNone(t, "a piece is missing", from, b[:i])
		}
		for _, more := range []byte{0, 1, 0xc0, 0xff} {
			makesNone(t, "one byte more", from, append(slices.Clone(b), more))
		}
		makes(t, to, b)
		makes(t, d.view(6), b)
	}
	// A bit within a number makes another number: that must be, too.
	if right < 100 {
		t.Fatalf("of all turned bits %d make a view", right)
	}
}

// Promise 8.2: drawn changes that are all in order but for one thing, perhaps.
func TestApplyDrawn(t *testing.T) {
	d := die(7)
	right := 0
	for range 6000 {
		from := d.view(5)
		text, last := "", 0
		for range 1 + d.upTo(4) {
			id := last + 1 + d.upTo(6)
			if len(from) > 0 && d.upTo(3) > 0 {
				id = max(last+1, from[d.upTo(len(from))].Id)
			}
			text += d.word(id - last - 1)
			last = id
		}
		if makes(t, from, packed(text+"11")) {
			right++
		}
	}
	if right < 200 {
		t.Fatalf("only %d of all drawn changes make a view", right)
	}
}

// word is any change of a body.
func (d *die) word(step int) string {
	text := put(d.upTo(3), 2) + putVar(step)
	parts := 7
	switch text[:2] {
	case "00":
		return text
	case "10":
		parts = d.upTo(8)
		text += put(parts, 3)
	}
	for i := range 3 {
		if parts&(4>>i) == 0 {
			continue
		}
		if i == 0 {
			text += put(d.upTo(8), 3)
		}
		text += putInt(d.number(), d.number(), d.number())
	}
	return text
}

// P1: whatever the bytes are, and however many, the call ends.
func TestApplyAnyBytes(t *testing.T) {
	d := die(8)
	for range 3000 {
		b := make([]byte, d.upTo(40))
		for i := range b {
			b[i] = byte(d.upTo(256))
		}
		makes(t, d.view(4), b)
	}
	for _, c := range []byte{0, 0x55, 0xaa, 0xff, 0x49} {
		for _, many := range []int{3983, 3984, 3985, 4000, 4001, 1 << 20} {
			makesNone(t, "much of one byte", counted(60), slices.Repeat([]byte{c}, many))
		}
	}
}

// P4: no list that is handed in is written into, nor what stands behind its length.
func TestNothingIsWritten(t *testing.T) {
	d := die(9)
	for range 200 {
		from := d.view(8)
		to := d.other(from, 12)
		behind := append(copied(from), d.view(9)...)
		ahead := append(copied(to), d.view(9)...)
		wasFrom, wasTo := copied(behind), copied(ahead)
		b, err := Delta(behind[:len(from)], ahead[:len(to)])
		asks(t, "Delta", err, api.OK)
		wide := append(slices.Clone(b), 1, 2, 3)
		wasWide := slices.Clone(wide)
		got, err := Apply(behind[:len(from)], wide[:len(b)])
		asks(t, "Apply", err, api.OK)
		if !slices.Equal(got, to) {
			t.Fatalf("Apply(%v, %x) = %v, want %v", from, b, got, to)
		}
		if !slices.Equal(behind, wasFrom) || !slices.Equal(ahead, wasTo) || !slices.Equal(wide, wasWide) {
			t.Fatalf("a list that was handed in was changed")
		}
	}
}

// P4: what comes out is fresh: it shares nothing with what went in, nor with the next answer.
func TestAnswersAreFresh(t *testing.T) {
	d := die(10)
	for range 200 {
		from := d.view(8)
		to := d.other(from, 12)
		wasFrom, wasTo := copied(from), copied(to)
		b, _ := Delta(from, to)
		wasB := slices.Clone(b)
		first, _ := Apply(from, b)
		second, _ := Apply(from, b)
		all := first[:cap(first)]
		for i := range all {
			all[i] = Seen{Id: -1}
		}
		if !slices.Equal(from, wasFrom) || !slices.Equal(to, wasTo) || !slices.Equal(b, wasB) || !slices.Equal(second, to) {
			t.Fatalf("what was told is shared")
		}
		again, _ := Delta(from, to)
		for i := range b {
			b[i]++
		}
		if !slices.Equal(again, wasB) || !slices.Equal(second, to) {
			t.Fatalf("bytes that were told are shared")
		}
	}
}
