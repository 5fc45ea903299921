package fx

import (
	"math"
	"math/big"
	"testing"

	"gyre/api"
)

const (
	one  = 65536
	top  = 70368744177664 // 2^46
	most = math.MaxInt
	low  = math.MinInt
)

// edges are the numbers at which something changes, and ordinary ones between them.
func edges() []int {
	l := []int{0, 1, 2, 3, 7, 255, 256, 257, 1000, one - 1, one, one + 1, 3 * one / 2, 2 * one, 3 * one, 4 * one, 10 * one, 123456789,
		1<<31 - 1, 1 << 31, 1<<31 + 1, 1<<32 - 1, 1 << 32, 1<<39 + 5, top/2 - 1, top / 2, top - 1, top, top + 1, 2 * top, 1<<47 - 1, 1 << 62, most - 1, most}
	for _, n := range l {
		if n != 0 {
			l = append(l, -n)
		}
	}
	return append(l, low)
}

// drawn is numbers of all sizes that look drawn, the same each time.
func drawn(many int) []int {
	seed := uint64(20)
	next := func() uint64 {
		seed = seed*6364136223846793005 + 1442695040888963407
		return seed >> 20
	}
	var l []int
	for range many {
		n := int(next() << 20 >> (next() % 64))
		if next()%2 == 0 {
			n = -n
		}
		l = append(l, n)
	}
	return l
}

func numbers() []int { return append(edges(), drawn(150)...) }

// exact is a number as the document tells it, worked out without bounds: Cut of what is between.
func exact(n *big.Int) int {
	if n.Cmp(big.NewInt(top)) > 0 {
		return top
	}
	if n.Cmp(big.NewInt(-top)) < 0 {
		return -top
	}
	return int(n.Int64())
}

func cutBig(n int) *big.Int { return big.NewInt(int64(exact(big.NewInt(int64(n))))) }

func exactMul(a, b int) int {
	p := new(big.Int).Mul(cutBig(a), cutBig(b))
	return exact(p.Quo(p, big.NewInt(one)))
}

func exactDiv(a, b int) int {
	x, y := cutBig(a), cutBig(b)
	if y.Sign() == 0 {
		return x.Sign() * top
	}
	x.Mul(x, big.NewInt(one))
	return exact(x.Quo(x, y))
}

func exactRoot(n int) int {
	x := cutBig(n)
	if x.Sign() < 0 {
		return 0
	}
	x.Mul(x, big.NewInt(one))
	return exact(x.Sqrt(x))
}

// twoCase is a function of two numbers, and what it is to answer.
type twoCase struct{ a, b, want int }

func checkTwo(t *testing.T, name string, f func(a, b int) int, l []twoCase) {
	t.Helper()
	for _, c := range l {
		if got := f(c.a, c.b); got != c.want {
			t.Errorf("%s(%d, %d) = %d, want %d", name, c.a, c.b, got, c.want)
		}
	}
}

func checkOne(t *testing.T, name string, f func(n int) int, l [][2]int) {
	t.Helper()
	for _, c := range l {
		if got := f(c[0]); got != c[1] {
			t.Errorf("%s(%d) = %d, want %d", name, c[0], got, c[1])
		}
	}
}

// Promise 1.1: Cut.
func TestCut(t *testing.T) {
	checkOne(t, "Cut", Cut, [][2]int{
		{0, 0}, {1, 1}, {-1, -1}, {5 * one, 5 * one},
		{top - 1, top - 1}, {top, top}, {top + 1, top}, {most, top},
		{1 - top, 1 - top}, {-top, -top}, {-top - 1, -top}, {-most, -top}, {low, -top},
	})
}

// Promise 1.1: Add, Sub, of arguments that are cut first.
func TestAddSub(t *testing.T) {
	checkTwo(t, "Add", Add, []twoCase{
		{1, 2, 3}, {-1, 2, 1}, {one, -3 * one, -2 * one}, {0, 0, 0},
		{top, 0, top}, {top, 1, top}, {top - 1, 1, top}, {-top, -1, -top}, {1 - top, -1, -top},
		{most, most, top}, {low, low, -top}, {most, low, 0}, {low, most, 0},
		{top + 5, -5, top - 5}, {most, -1, top - 1}, {low, 1, 1 - top},
	})
	checkTwo(t, "Sub", Sub, []twoCase{
		{1, 2, -1}, {2, 1, 1}, {one, -3 * one, 4 * one}, {0, 0, 0},
		{top, -1, top}, {-top, 1, -top}, {top, top, 0}, {-top, -top, 0},
		{most, low, top}, {low, most, -top}, {low, low, 0}, {most, most, 0}, {0, low, top}, {0, most, -top},
		{top + 5, 5, top - 5}, {5, low, top}, {-5, low, top - 5},
	})
}

// Promise 1.1: Mul, rounded towards 0 on both sides.
func TestMul(t *testing.T) {
	checkTwo(t, "Mul", Mul, []twoCase{
		{3 * one, one / 2, 3 * one / 2}, {one, one, one}, {2 * one, -3 * one, -6 * one}, {-2 * one, -3 * one, 6 * one},
		{1, 1, 0}, {-1, 1, 0}, {1, -1, 0}, {-1, -1, 0}, {one - 1, 1, 0}, {1 - one, 1, 0}, {one, 1, 1}, {-one, 1, -1},
		{3, one / 2, 1}, {-3, one / 2, -1}, {3, -one / 2, -1}, {-3, -one / 2, 1},
		{0, most, 0}, {low, 0, 0}, {top, 0, 0},
		{top, one, top}, {top, -one, -top}, {top, one + 1, top}, {top, 1, 1 << 30}, {-top, 1, -1 << 30},
		{top, top, top}, {-top, top, -top}, {top, -top, -top}, {-top, -top, top},
		{most, most, top}, {low, low, top}, {low, most, -top}, {most, 1, 1 << 30}, {low, 1, -1 << 30},
		{1 << 31, 1 << 31, top}, {1 << 31, 1<<31 - 1, top - 1<<15}, {1 << 32, 1 << 32, top}, {-1 << 32, 1 << 32, -top},
	})
}

// Promise 1.1: Div, and Div by 0.
func TestDiv(t *testing.T) {
	checkTwo(t, "Div", Div, []twoCase{
		{3 * one, 2 * one, 3 * one / 2}, {one, one, one}, {6 * one, -3 * one, -2 * one}, {-6 * one, -3 * one, 2 * one},
		{1, one, 1}, {one, 3 * one, 21845}, {-one, 3 * one, -21845}, {one, -3 * one, -21845}, {-one, -3 * one, 21845},
		{1, one + 1, 0}, {-1, one + 1, 0}, {0, 5, 0}, {0, -5, 0},
		{0, 0, 0}, {1, 0, top}, {-1, 0, -top}, {top, 0, top}, {-top, 0, -top}, {most, 0, top}, {low, 0, -top},
		{top, 1, top}, {top, -1, -top}, {-top, -1, top}, {-top, 1, -top}, {top, one, top}, {top, one + 1, 70367670452223},
		{top, top, one}, {most, most, one}, {low, low, one}, {low, most, -one}, {most, low, -one}, {low, -1, top},
		{1, top, 0}, {1 << 30, top, 1}, {1<<30 - 1, top, 0}, {1 << 30, most, 1}, {1 << 30, low, -1},
	})
}

// Promise 1.1: Root.
func TestRoot(t *testing.T) {
	checkOne(t, "Root", Root, [][2]int{
		{0, 0}, {4 * one, 2 * one}, {one, one}, {9 * one, 3 * one}, {2 * one, 92681}, {one / 4, one / 2},
		{1, 256}, {2, 362}, {4, 512}, {4*one - 1, 2*one - 1}, {4*one + 1, 2 * one},
		{top, 1 << 31}, {top - 1, 1<<31 - 1}, {top + 1, 1 << 31}, {most, 1 << 31},
		{-1, 0}, {-4 * one, 0}, {-top, 0}, {-top - 1, 0}, {low, 0},
	})
}

// Promise 1.1, against numbers without bounds; P1: none panics.
func TestNumbersExact(t *testing.T) {
	l := numbers()
	for _, a := range l {
		if got, want := Cut(a), exact(big.NewInt(int64(a))); got != want {
			t.Errorf("Cut(%d) = %d, want %d", a, got, want)
		}
		if got, want := Root(a), exactRoot(a); got != want {
			t.Errorf("Root(%d) = %d, want %d", a, got, want)
		}
		for _, b := range l {
			checkTwo(t, "Add", Add, []twoCase{{a, b, exact(new(big.Int).Add(cutBig(a), cutBig(b)))}})
			checkTwo(t, "Sub", Sub, []twoCase{{a, b, exact(new(big.Int).Sub(cutBig(a), cutBig(b)))}})
			checkTwo(t, "Mul", Mul, []twoCase{{a, b, exactMul(a, b)}})
			checkTwo(t, "Div", Div, []twoCase{{a, b, exactDiv(a, b)}})
		}
	}
}

// Of the whole, 1: a root is a root.
func TestRootIsRoot(t *testing.T) {
	l := append(numbers(), drawn(5000)...)
	for r := 1<<31 - 300; r <= 1<<31; r++ { // roots just below that of Top
		l = append(l, r*r/one, r*r/one-1, r*r/one+1)
	}
	for n := range 3000 {
		l = append(l, n)
	}
	for _, n := range l {
		r := Root(n)
		if n < 0 {
			if r != 0 {
				t.Errorf("Root(%d) = %d, want 0", n, r)
			}
			continue
		}
		square := uint64(Cut(n)) * one
		if r < 0 || uint64(r)*uint64(r) > square || uint64(r+1)*uint64(r+1) <= square {
			t.Errorf("Root(%d) = %d: it is no root", n, r)
		}
	}
}

// Of the whole, 1: a product hangs on no order.
func TestProductHangsOnNoOrder(t *testing.T) {
	l := numbers()
	for i, a := range l {
		for j, b := range l {
			if Mul(a, b) != Mul(b, a) {
				t.Errorf("Mul(%d, %d) = %d, the other way round %d", a, b, Mul(a, b), Mul(b, a))
			}
			v := api.Vec{X: a, Y: b, Z: l[(i+j)%len(l)]}
			w := api.Vec{X: l[(i+2*j)%len(l)], Y: a, Z: b}
			if Dot(v, w) != Dot(w, v) {
				t.Errorf("Dot(%v, %v) = %d, the other way round %d", v, w, Dot(v, w), Dot(w, v))
			}
		}
	}
}
