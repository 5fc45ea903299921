// Package fx: numbers of 65,536ths that stay within bounds.
package fx

import (
	"math/bits"

	"gyre/api"
)

// maxRoot is the Root of Top: no root is above it, and its square still fits an int.
const maxRoot = 1 << 31

// Cut keeps a number within -Top and Top.
func Cut(n int) (_ int) { return within(api.Top)(n) }

// Add is a sum, cut.
func Add(a, b int) (_ int) { return Cut(Cut(a) + Cut(b)) }

// Sub is a difference, cut.
func Sub(a, b int) (_ int) { return Cut(Cut(a) - Cut(b)) }

// Mul is a product, rounded towards 0, cut.
func Mul(a, b int) (_ int) {
	a, b = Cut(a), Cut(b)
	// The product of two cut numbers has up to 92 bits.
	high, low := bits.Mul64(size(a), size(b))
	n := api.Top
	if high == 0 {
		n = int(low / api.One)
	}
	// The sign is put on behind the division, so that it rounds towards 0 on both sides.
	if (a < 0) != (b < 0) {
		n = -n
	}
	return Cut(n)
}

// Div is a quotient, rounded towards 0, cut; by 0: Top with a's sign (0 of 0).
func Div(a, b int) (_ int) {
	a, b = Cut(a), Cut(b)
	if b == 0 {
		return endless(a)
	}
	// One times Top is 2^62: it fits.
	return Cut(api.One * a / b)
}

// Root is the square root, rounded down (0 of what is below 0).
func Root(n int) (_ int) {
	square := api.One * Cut(n)
	if square <= 0 {
		return 0
	}
	low, high := 0, maxRoot
	for low < high {
		// Rounded up, so that each round leaves less between low and high.
		middle := (low + high + 1) / 2
		if middle*middle <= square {
			low = middle
		} else {
			high = middle - 1
		}
	}
	return low
}

// Plus is a sum of vectors, part by part.
func Plus(a, b api.Vec) (_ api.Vec) {
	return api.Vec{X: Add(a.X, b.X), Y: Add(a.Y, b.Y), Z: Add(a.Z, b.Z)}
}

// Minus is a difference of vectors, part by part.
func Minus(a, b api.Vec) (_ api.Vec) {
	return api.Vec{X: Sub(a.X, b.X), Y: Sub(a.Y, b.Y), Z: Sub(a.Z, b.Z)}
}

// Times is a vector times a number.
func Times(a api.Vec, k int) (_ api.Vec) {
	return each(a, func(n int) int { return Mul(n, k) })
}

// Dot is the inner product.
func Dot(a, b api.Vec) (_ int) {
	return Add(Add(Mul(a.X, b.X), Mul(a.Y, b.Y)), Mul(a.Z, b.Z))
}

// Long is a vector's length.
func Long(a api.Vec) (_ int) { return Root(Dot(a, a)) }

// Unit is a vector of length about 1 in a vector's direction; that upwards (Y) of one without length.
func Unit(a api.Vec) (_ api.Vec) {
	long := Long(a)
	if long == 0 {
		return api.Vec{Y: api.One}
	}
	return each(a, func(n int) int { return Div(n, long) })
}

// Clamp keeps each part within -most and most (below 0: 0). Neither the parts nor most are cut.
func Clamp(a api.Vec, most int) (_ api.Vec) {
	if most < 0 {
		most = 0
	}
	return each(a, within(most))
}

// within answers a function that keeps a number within -most and most; most is at least 0.
func within(most int) func(n int) int {
	return func(n int) int {
		if n > most {
			return most
		}
		if n < -most {
			return -most
		}
		return n
	}
}

// each is a vector of what a function makes of each part.
func each(a api.Vec, part func(n int) int) api.Vec {
	return api.Vec{X: part(a.X), Y: part(a.Y), Z: part(a.Z)}
}

// size is a cut number without its sign.
func size(n int) uint64 {
	if n < 0 {
		n = -n
	}
	return uint64(n)
}

// endless is what a number is by 0.
func endless(a int) int {
	switch {
	case a > 0:
		return api.Top
	case a < 0:
		return -api.Top
	}
	return 0
}
