package wire

import (
	"fmt"
	"slices"
	"strings"
	"testing"

	"gyre/api"
)

// Chapter 10: the kinds' numbers, and the bounds.
func TestNumbers(t *testing.T) {
	if got, want := [5]int{Ack, Push, Remove, PieceBytes, MaxPieces}, [5]int{0, 1, 2, whole, parts}; got != want {
		t.Fatalf("%v, want %v", got, want)
	}
}

// Promise 10.1: a command of each kind, by bytes worked out by hand.
func TestAskByHand(t *testing.T) {
	for _, c := range []struct {
		command Command
		want    []byte
	}{
		{Command{}, []byte{0, 0, 0}},
		{Command{Token: 1, Number: 2, Seen: 3}, []byte{0x04, 0x20, 0xc0}},
		{Command{Token: 1, Number: 2, Seen: 3, Kind: Push, Body: 5, Way: vec(1, -1, 0)}, []byte{0x04, 0x20, 0xd1, 0x42, 0x04, 0x00}},
		{Command{Token: 1, Number: 2, Seen: 3, Kind: Remove, Body: 5}, []byte{0x04, 0x20, 0xe1, 0x40}},
		{Command{Token: 31, Number: 32, Seen: 0}, []byte{0x7e, 0x00, 0x40, 0x00}},
	} {
		asked(t, c.command, c.want)
	}
}

// numbersOf are all of a command but its kind, in the order in which they are told.
func numbersOf(c *Command) [7]*int {
	return [7]*int{&c.Token, &c.Number, &c.Seen, &c.Body, &c.Way.X, &c.Way.Y, &c.Way.Z}
}

// hasFirst is how many of these a kind has: the first ones.
func hasFirst(kind int) int { return [3]int{3, 7, 4}[kind] }

// Promise 10.1: each number alone, at its ends and beyond them; what a kind has not may be anything.
func TestAskEdges(t *testing.T) {
	for kind := range 3 {
		for i := range 7 {
			least, last := 0, top
			if i > 3 {
				least, last = -quick, quick
			}
			for _, n := range []int{low, -top, -quick - 1, -quick, -1, 0, 1, 31, 32, 1023, 1024, quick, quick + 1, top - 1, top, top + 1, 1 << 61, 1 << 62, most} {
				c := Command{Token: 1, Number: 2, Seen: 3, Kind: kind, Body: 4, Way: vec(5, 6, 7)}
				want := c
				*numbersOf(&c)[i] = n
				switch {
				case i >= hasFirst(kind):
					asked(t, c, packed(asking(want)))
				case n < least || n > last:
					askFails(t, c, api.ErrRange)
				default:
					asked(t, c, packed(asking(c)))
				}
			}
		}
	}
}

// Promise 10.1: what a kind has not is not told, all at once, and is 0 when it is read.
func TestAskHasNot(t *testing.T) {
	for _, n := range []int{low, -1, 1, top + 1, most} {
		way := vec(n, n, n)
		asked(t, Command{Token: 1, Number: 2, Seen: 3, Kind: Ack, Body: n, Way: way}, []byte{0x04, 0x20, 0xc0})
		asked(t, Command{Token: 1, Number: 2, Seen: 3, Kind: Remove, Body: 5, Way: way}, []byte{0x04, 0x20, 0xe1, 0x40})
	}
}

// Promise 10.1: no other kinds; that is told ahead of numbers that may not be.
func TestAskKinds(t *testing.T) {
	for _, kind := range []int{low, -1, 3, 4, 5, 256, 1 << 32, most} {
		askFails(t, Command{Kind: kind}, api.ErrArg)
		askFails(t, Command{Kind: kind, Token: -1, Number: top + 1, Seen: low, Body: most, Way: vec(low, most, 0)}, api.ErrArg)
	}
	askFails(t, Command{Kind: Push, Token: -1, Number: top + 1, Seen: low, Body: most, Way: vec(low, most, 0)}, api.ErrRange)
}

// Promise 10.1: what Ask does not write is no command, told bit by bit.
func TestAskedWrongBits(t *testing.T) {
	ahead := putVar(1, 2, 3)
	for what, text := range map[string]string{
		"nothing at all":                     "",
		"cut in the token":                   "00",
		"cut in the number":                  putVar(1<<20) + "00",
		"no seen":                            putVar(1, 1<<15),
		"no kind":                            putVar(1, 1<<5, 1<<5)[:24],
		"a fourth kind":                      ahead + "11",
		"a fourth kind of a body":            ahead + "11" + putVar(5),
		"a fourth kind with a way":           ahead + "11" + putVar(5) + putInt(1, 1, 1),
		"a token too great":                  putVar(top+1, 2, 3) + "00",
		"a number too great":                 putVar(1, top+1, 3) + "00",
		"seen too much":                      putVar(1, 2, top+1) + "00",
		"the greatest token of all":          putVar(1<<62-1, 2, 3) + "00",
		"a token that no Var tells":          strings.Repeat("111111", 12) + "001111" + putVar(2, 3) + "00",
		"a token of pieces it needs not":     "100001" + "000000" + putVar(2, 3) + "00",
		"a number of pieces it needs not":    putVar(1) + "100010" + "000000" + putVar(3) + "00",
		"seen of pieces it needs not":        putVar(1, 2) + "100011" + "100000" + "000000" + "00",
		"a bit behind an ack":                ahead + "00" + "0001",
		"a byte behind an ack":               ahead + "00" + "0000" + "00000000",
		"an ack of a body":                   ahead + "00" + putVar(5),
		"an ack of body 0":                   ahead + "00" + putVar(0),
		"a push of nobody":                   ahead + "01",
		"a push without a way":               ahead + "01" + putVar(5),
		"a push with half a way":             ahead + "01" + putVar(5) + putInt(1),
		"a push, cut in its way":             ahead + "01" + putVar(5) + putInt(1, 1) + "0",
		"a push too far on":                  ahead + "01" + putVar(5) + putInt(quick+1, 0, 0),
		"a push too far back":                ahead + "01" + putVar(5) + putInt(0, -quick-1, 0),
		"a push as far as Int goes":          ahead + "01" + putVar(5) + putInt(0, 0, 1<<60),
		"a push as far back as Int goes":     ahead + "01" + putVar(5) + putInt(0, 0, -1<<60),
		"a push beyond that":                 ahead + "01" + putVar(5) + putInt(0, 0) + putVar(1<<61+1),
		"a push of pieces it needs not":      ahead + "01" + putVar(5) + putInt(0, 0) + "100000" + "000000",
		"a push of a body too great":         ahead + "01" + putVar(top+1) + putInt(0, 0, 0),
		"a bit behind a push":                ahead + "01" + putVar(5) + putInt(0, 0, 0) + "0100",
		"a byte behind a push":               ahead + "01" + putVar(5) + putInt(0, 0, 0) + "0000" + "00000000",
		"a remove of nobody":                 ahead + "10",
		"a remove of a body too great":       ahead + "10" + putVar(top+1),
		"a remove, cut in its body":          ahead + "10" + "1010",
		"a remove with a way":                ahead + "10" + putVar(5) + putInt(1, 1, 1),
		"a remove with a way of 0":           ahead + "10" + putVar(5) + putInt(0, 0, 0),
		"a bit behind a remove":              ahead + "10" + putVar(5) + "000001",
		"a remove of pieces it needs not":    ahead + "10" + "100101" + "000000",
		"a remove of a body no Var tells":    ahead + "10" + strings.Repeat("100000", 12) + "000100",
		"two commands, one behind the other": asking(Command{}) + asking(Command{}),
	} {
		b := packed(text)
		if _, right := askedFor(b); right {
			t.Fatalf("%s: the model takes it for a command", what)
		}
		noCommand(t, what, b)
	}
	// Beside them those that are right.
	for what, text := range map[string]string{
		"an ack":                  ahead + "00",
		"the greatest numbers":    putVar(top, top, top) + "00",
		"a push":                  ahead + "01" + putVar(5) + putInt(1, 1, 1),
		"a push as far as may be": ahead + "01" + putVar(top) + putInt(quick, -quick, quick),
		"a push by nothing":       ahead + "01" + putVar(0) + putInt(0, 0, 0),
		"a remove":                ahead + "10" + putVar(5),
		"a remove of body 0":      ahead + "10" + putVar(0),
		"a remove of the last":    ahead + "10" + putVar(top),
	} {
		if !asksAs(t, packed(text)) {
			t.Fatalf("%s: the model takes it for no command", what)
		}
	}
}

// Promise 10.1: all that up to two bytes may be is no command; of three bytes just all short acks are.
func TestAskedAllShort(t *testing.T) {
	noCommand(t, "nothing", nil)
	for n := range 1 << 16 {
		if n < 256 {
			noCommand(t, "a byte", []byte{byte(n)})
		}
		noCommand(t, "two bytes", []byte{byte(n >> 8), byte(n)})
	}
	commands := 0
	for n := range 1 << 16 {
		if asksAs(t, []byte{0x04, byte(n >> 8), byte(n)}) {
			commands++
		}
	}
	// The token is 1, the number of one piece that begins with 0, what is seen of one piece, the kind Ack.
	if want := 16 * 32; commands != want {
		t.Fatalf("of all three bytes %d are commands, want %d", commands, want)
	}
}

// Promise 10.1: what was asked is read again, whatever it is.
func TestAskDrawn(t *testing.T) {
	d := die(1)
	for range 5000 {
		c := d.command()
		asked(t, c, packed(asking(c)))
	}
}

// Promise 10.1: each bit turned round, each end cut off, more behind it.
func TestAskedTurned(t *testing.T) {
	d := die(2)
	right, wrong := 0, 0
	for range 150 {
		b, err := Ask(d.command())
		asks(t, "Ask", err, api.OK)
		for c := range turned(b) {
			if asksAs(t, c) {
				right++
			} else {
				wrong++
			}
		}
	}
	// A bit within a number makes another number: that must be, too.
	if right < 1000 || wrong < 1000 {
		t.Fatalf("%d right, %d wrong", right, wrong)
	}
}

// P1: whatever the bytes are, and however many, the call ends.
func TestAskedAnyBytes(t *testing.T) {
	d := die(3)
	for range 5000 {
		asksAs(t, d.bytes(d.upTo(40)))
	}
	for _, c := range []byte{0, 0x55, 0xaa, 0xff} {
		for _, many := range []int{100, 4000, 4001, 1 << 20} {
			noCommand(t, fmt.Sprint(many), slices.Repeat([]byte{c}, many))
		}
	}
}

// P4: bytes that are handed in stay as they are, and what stands behind them does not matter; answers are fresh.
func TestCommandsAreApart(t *testing.T) {
	d := die(4)
	for range 300 {
		c := d.command()
		b, _ := Ask(c)
		wide := append(slices.Clone(b), d.bytes(3)...)
		was := slices.Clone(wide)
		first, err := Asked(wide[:len(b)])
		asks(t, "Asked", err, api.OK)
		if !slices.Equal(wide, was) {
			t.Fatalf("bytes that were handed in were changed")
		}
		again, _ := Ask(first)
		for i := range b {
			b[i]++
		}
		if !slices.Equal(again, was[:len(b)]) {
			t.Fatalf("bytes that were told are shared")
		}
	}
}
