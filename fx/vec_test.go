package fx

import (
	"testing"

	"gyre/api"
)

func vec(x, y, z int) api.Vec { return api.Vec{X: x, Y: y, Z: z} }

// vectors is vectors of all sizes, edges among them.
func vectors() []api.Vec {
	l := numbers()
	out := []api.Vec{{}}
	for i, n := range l {
		out = append(out, vec(n, 0, 0), vec(0, n, 0), vec(0, 0, n), vec(n, l[(i*7+3)%len(l)], l[(i*13+5)%len(l)]))
	}
	return out
}

type vecCase struct{ a, b, want api.Vec }

func checkVec(t *testing.T, name string, f func(a, b api.Vec) api.Vec, l []vecCase) {
	t.Helper()
	for _, c := range l {
		if got := f(c.a, c.b); got != c.want {
			t.Errorf("%s(%v, %v) = %v, want %v", name, c.a, c.b, got, c.want)
		}
	}
}

type numberCase struct {
	a    api.Vec
	k    int
	want api.Vec
}

func checkNumber(t *testing.T, name string, f func(a api.Vec, k int) api.Vec, l []numberCase) {
	t.Helper()
	for _, c := range l {
		if got := f(c.a, c.k); got != c.want {
			t.Errorf("%s(%v, %d) = %v, want %v", name, c.a, c.k, got, c.want)
		}
	}
}

// Promise 1.2: Plus, Minus, Times.
func TestPlusMinusTimes(t *testing.T) {
	checkVec(t, "Plus", Plus, []vecCase{
		{vec(1, 2, 3), vec(10, 20, 30), vec(11, 22, 33)},
		{vec(-1, 0, 1), vec(1, 0, -1), vec(0, 0, 0)},
		{vec(top, -top, most), vec(1, -1, -1), vec(top, -top, top-1)},
		{vec(low, most, low), vec(low, most, most), vec(-top, top, 0)},
	})
	checkVec(t, "Minus", Minus, []vecCase{
		{vec(1, 2, 3), vec(10, 20, 30), vec(-9, -18, -27)},
		{vec(5, 6, 7), vec(5, 6, 7), vec(0, 0, 0)},
		{vec(top, -top, most), vec(-1, 1, 1), vec(top, -top, top-1)},
		{vec(0, 0, low), vec(low, most, low), vec(top, -top, 0)},
	})
	checkNumber(t, "Times", Times, []numberCase{
		{vec(one, 2*one, -3*one), 2 * one, vec(2*one, 4*one, -6*one)},
		{vec(1, -1, 3), one / 2, vec(0, 0, 1)},
		{vec(-3, 4, 5), -one / 2, vec(1, -2, -2)},
		{vec(1, 2, 3), 0, vec(0, 0, 0)},
		{vec(top, -top, low), 2 * one, vec(top, -top, -top)},
		{vec(one, -one, 0), most, vec(top, -top, 0)},
		{vec(one, -one, 1), low, vec(-top, top, -1<<30)},
	})
}

// Promise 1.2: Dot, each sum cut, from the Xs on.
func TestDot(t *testing.T) {
	for _, c := range []struct {
		a, b api.Vec
		want int
	}{
		{vec(one, 2*one, 3*one), vec(4*one, 5*one, 6*one), 32 * one},
		{vec(one, 0, 0), vec(0, one, 0), 0},
		{vec(one, one, one), vec(-one, -2*one, -3*one), -6 * one},
		// Each product is rounded by itself.
		{vec(1, 1, 1), vec(one/2, one/2, one/2), 0},
		{vec(top, top, -5*one), vec(one, one, one), top - 5*one},
		{vec(-top, -top, 5*one), vec(one, one, one), 5*one - top},
		{vec(top, 5*one, -top), vec(one, one, one), 0},
		{vec(5*one, top, -top), vec(one, one, one), 0},
		{vec(top, -top, 5*one), vec(one, one, one), 5 * one},
		{vec(top, -5*one, top), vec(one, one, one), top},
		{vec(most, most, most), vec(most, most, most), top},
		{vec(low, low, low), vec(low, low, low), top},
		{vec(low, low, low), vec(most, most, most), -top},
	} {
		if got := Dot(c.a, c.b); got != c.want {
			t.Errorf("Dot(%v, %v) = %d, want %d", c.a, c.b, got, c.want)
		}
	}
}

// Promise 1.2: Long.
func TestLong(t *testing.T) {
	for _, c := range []struct {
		a    api.Vec
		want int
	}{
		{vec(0, 0, 0), 0}, {vec(3*one, 4*one, 0), 5 * one}, {vec(-2*one, -3*one, 6*one), 7 * one},
		{vec(0, 0, -one), one}, {vec(one, one, one), 113511},
		// Squares below 1 are nothing, each by itself.
		{vec(255, 255, 255), 0}, {vec(255, -255, -255), 0}, {vec(256, 0, 0), 256}, {vec(-256, 255, 255), 256},
		{vec(1<<31, 0, 0), 1 << 31}, {vec(1<<31-1, 0, 0), 1<<31 - 2}, {vec(1<<31, 1<<31, 0), 1 << 31},
		{vec(top, 0, 0), 1 << 31}, {vec(low, most, low), 1 << 31},
	} {
		if got := Long(c.a); got != c.want {
			t.Errorf("Long(%v) = %d, want %d", c.a, got, c.want)
		}
	}
}

// Promise 1.2: Unit, and that of a vector whose Long is 0.
func TestUnit(t *testing.T) {
	for _, c := range []struct{ a, want api.Vec }{
		{vec(5*one, 0, 0), vec(one, 0, 0)}, {vec(0, -2*one, 0), vec(0, -one, 0)}, {vec(0, 0, 7), vec(0, one, 0)},
		{vec(3*one, 4*one, 0), vec(39321, 52428, 0)}, {vec(-3*one, 0, 4*one), vec(-39321, 0, 52428)},
		{vec(0, 0, 0), vec(0, one, 0)}, {vec(255, -255, 255), vec(0, one, 0)}, {vec(-1, 0, 0), vec(0, one, 0)},
		{vec(256, 0, 0), vec(one, 0, 0)}, {vec(256, -255, 0), vec(one, -65280, 0)},
		{vec(top, 0, 0), vec(1<<31, 0, 0)}, {vec(most, low, -one), vec(1<<31, -1<<31, -2)},
	} {
		if got := Unit(c.a); got != c.want {
			t.Errorf("Unit(%v) = %v, want %v", c.a, got, c.want)
		}
	}
}

// Promise 1.2: Clamp, whose arguments and parts are not cut.
func TestClamp(t *testing.T) {
	checkNumber(t, "Clamp", Clamp, []numberCase{
		{vec(1, -2, 3), 5, vec(1, -2, 3)},
		{vec(6, -6, 0), 5, vec(5, -5, 0)},
		{vec(5, -5, 4), 5, vec(5, -5, 4)},
		{vec(9, -9, 1), 0, vec(0, 0, 0)},
		{vec(9, -9, 1), -1, vec(0, 0, 0)},
		{vec(9, -9, 1), -5, vec(0, 0, 0)},
		{vec(most, low, 1), low, vec(0, 0, 0)},
		{vec(most, low, 0), 100 * one, vec(100*one, -100*one, 0)},
		{vec(most, low, 0), top, vec(top, -top, 0)},
		{vec(top+1, -top-1, top), top + 1, vec(top+1, -top-1, top)},
		{vec(top+5, -top-5, 0), top + 2, vec(top+2, -top-2, 0)},
		{vec(most, -most, low), most, vec(most, -most, -most)},
	})
}

// Promise 1.2, part by part by what 1.1 tells; P1: none panics.
func TestVectorsExact(t *testing.T) {
	l := vectors()
	for i, a := range l {
		b, k := l[(i*31+17)%len(l)], l[(i*11+1)%len(l)].X
		checkVec(t, "Plus", Plus, []vecCase{{a, b, vec(Add(a.X, b.X), Add(a.Y, b.Y), Add(a.Z, b.Z))}})
		checkVec(t, "Minus", Minus, []vecCase{{a, b, vec(Sub(a.X, b.X), Sub(a.Y, b.Y), Sub(a.Z, b.Z))}})
		checkNumber(t, "Times", Times, []numberCase{{a, k, vec(exactMul(a.X, k), exactMul(a.Y, k), exactMul(a.Z, k))}})
		if got, want := Dot(a, b), Add(Add(exactMul(a.X, b.X), exactMul(a.Y, b.Y)), exactMul(a.Z, b.Z)); got != want {
			t.Errorf("Dot(%v, %v) = %d, want %d", a, b, got, want)
		}
		long := exactRoot(Dot(a, a))
		if got := Long(a); got != long {
			t.Errorf("Long(%v) = %d, want %d", a, got, long)
		}
		unit := vec(0, one, 0)
		if long != 0 {
			unit = vec(exactDiv(a.X, long), exactDiv(a.Y, long), exactDiv(a.Z, long))
		}
		if got := Unit(a); got != unit {
			t.Errorf("Unit(%v) = %v, want %v", a, got, unit)
		}
		checkClamped(t, a, k)
	}
}

// checkClamped: no part of a Clamp is beyond its bound, and one that was within stays.
func checkClamped(t *testing.T, a api.Vec, k int) {
	t.Helper()
	bound := max(k, 0)
	got := Clamp(a, k)
	for _, p := range [][2]int{{a.X, got.X}, {a.Y, got.Y}, {a.Z, got.Z}} {
		want := min(max(p[0], -bound), bound)
		if p[1] != want {
			t.Errorf("Clamp(%v, %d) = %v: of %d it makes %d, want %d", a, k, got, p[0], p[1], want)
		}
	}
}
