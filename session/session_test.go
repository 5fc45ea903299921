package session

import (
	"fmt"
	"math"
	"slices"
	"testing"

	"gyre/api"
	"gyre/plain"
)

const (
	top  = 70368744177664 // 2^46: the greatest token, the greatest number
	full = 1000           // the greatest limit
	most = math.MaxInt
	low  = math.MinInt
)

// asks fails unless an error is that one, without a place.
func asks(t *testing.T, what string, err error, want api.Errno) {
	t.Helper()
	if e, bare := plain.Bare(err); e != want || !bare {
		t.Fatalf("%s: %v, want %v", what, err, want)
	}
}

// made is a session that may be.
func made(t *testing.T, token, most, each int) *Session {
	t.Helper()
	s, err := New(token, Limit{Most: most, Each: each})
	asks(t, "New", err, api.OK)
	return s
}

// has fails unless just so many commands are left, and that one is the newest.
func has(t *testing.T, s *Session, left, newest int) {
	t.Helper()
	if s.Left() != left || s.Newest() != newest {
		t.Fatalf("%d left, newest %d, want %d, %d", s.Left(), s.Newest(), left, newest)
	}
}

// takes fails unless Take tells just that, and nothing changes with an error.
func takes(t *testing.T, s *Session, token, number int, want api.Errno) {
	t.Helper()
	left, newest := s.Left(), s.Newest()
	err := s.Take(token, number)
	asks(t, fmt.Sprintf("Take(%d, %d) with %d left behind %d", token, number, left, newest), err, want)
	if want == api.OK {
		left, newest = left-1, max(newest, number)
	}
	has(t, s, left, newest)
}

// model is the chapter once more: all numbers that came are kept.
type model struct {
	token int
	limit Limit
	left  int
	came  map[int]int // each with 1
}

func modelOf(token, most, each int) *model {
	return &model{token: token, limit: Limit{most, each}, left: most, came: map[int]int{}}
}

func (m *model) newest() int {
	n := -1
	for number := range m.came {
		n = max(n, number)
	}
	return n
}

func (m *model) tick() {
	for range m.limit.Each {
		if m.left < m.limit.Most {
			m.left++
		}
	}
}

func (m *model) take(token, number int) api.Errno {
	if token != m.token {
		return api.ErrName
	}
	if number < 0 || number > top {
		return api.ErrRange
	}
	if m.newest()-number >= 64 {
		return api.ErrOrder
	}
	if m.came[number] == 1 {
		return api.ErrTwice
	}
	if m.left == 0 {
		return api.ErrLimit
	}
	m.left--
	m.came[number] = 1
	return api.OK
}

// die tells numbers that look drawn, the same each time.
type die uint64

func (d *die) upTo(many int) int {
	*d = *d*6364136223846793005 + 1442695040888963407
	return int(uint64(*d>>20) % uint64(many))
}

// Promise 9.1: which sessions may be, at the edges of the token and both limits.
func TestNew(t *testing.T) {
	for _, token := range []int{0, 1, 7, top - 1, top} {
		for _, most := range []int{0, 1, 999, full} {
			for _, each := range []int{0, 1, 999, full} {
				has(t, made(t, token, most, each), most, -1)
			}
		}
	}
	for _, c := range []struct {
		token int
		limit Limit
	}{
		{-1, Limit{1, 1}}, {top + 1, Limit{1, 1}}, {low, Limit{1, 1}}, {most, Limit{1, 1}},
		{1, Limit{-1, 1}}, {1, Limit{full + 1, 1}}, {1, Limit{low, 1}}, {1, Limit{most, 1}},
		{1, Limit{1, -1}}, {1, Limit{1, full + 1}}, {1, Limit{1, low}}, {1, Limit{1, most}},
		{-1, Limit{-1, -1}}, {0, Limit{-1, full}}, {top, Limit{0, -1}},
	} {
		s, err := New(c.token, c.limit)
		asks(t, fmt.Sprint("New ", c), err, api.ErrRange)
		if s != nil {
			t.Fatalf("New(%v) = %v beside an error", c, s)
		}
	}
}

// Promise 9.1: some calls, by answers worked out by hand.
func TestByHand(t *testing.T) {
	s := made(t, 7, 3, 2)
	has(t, s, 3, -1)
	takes(t, s, 7, 10, api.OK)
	takes(t, s, 7, 10, api.ErrTwice)
	takes(t, s, 7, 8, api.OK)
	has(t, s, 1, 10)
	takes(t, s, 6, 9, api.ErrName)
	takes(t, s, 7, 0, api.OK)
	takes(t, s, 7, 9, api.ErrLimit)
	takes(t, s, 7, 8, api.ErrTwice)
	takes(t, s, 7, 11, api.ErrLimit)
	s.Tick()
	has(t, s, 2, 10)
	takes(t, s, 7, 11, api.OK)
	takes(t, s, 7, 75, api.OK)
	has(t, s, 0, 75)
	s.Tick()
	s.Tick()
	has(t, s, 3, 75)
	takes(t, s, 7, 11, api.ErrOrder)
	takes(t, s, 7, 12, api.OK)
	takes(t, s, 7, 12, api.ErrTwice)
	has(t, s, 2, 75)
}

// Promise 9.1: Tick: Each more, Most at most.
func TestTick(t *testing.T) {
	for _, most := range []int{0, 1, 2, 5, 999, full} {
		for _, each := range []int{0, 1, 2, 3, 999, full} {
			s := made(t, 0, most, each)
			s.Tick()
			has(t, s, most, -1)
			for n := range most {
				takes(t, s, 0, n, api.OK)
			}
			takes(t, s, 0, most, api.ErrLimit)
			for ticks := range 4 {
				has(t, s, min(most, ticks*each), most-1)
				s.Tick()
			}
		}
	}
}

// Promise 9.1: 63 below the newest one is taken, 64 below is too old, wherever the newest one is.
func TestOldNumbers(t *testing.T) {
	for _, newest := range []int{0, 1, 62, 63, 64, 65, 127, 128, 1 << 31, 1 << 45, top - 1, top} {
		s := made(t, 3, full, 0)
		takes(t, s, 3, newest, api.OK)
		for back := range 200 {
			switch n := newest - back; {
			case n < 0:
				takes(t, s, 3, n, api.ErrRange)
			case back >= 64:
				takes(t, s, 3, n, api.ErrOrder)
			case back > 0:
				takes(t, s, 3, n, api.OK)
			}
		}
		for back := range 64 {
			if newest-back >= 0 {
				takes(t, s, 3, newest-back, api.ErrTwice)
			}
		}
		if newest >= 64 {
			takes(t, s, 3, 0, api.ErrOrder)
		}
	}
}

// Promise 9.1: what came stays so while the newest one goes on by any step, and nothing else came.
func TestNewestGoesOn(t *testing.T) {
	for step := 1; step < 140; step++ {
		for _, from := range []int{0, 1, 63, 64, 5000, top - 200} {
			s := made(t, 3, full, 0)
			takes(t, s, 3, from, api.OK)
			takes(t, s, 3, from+2, api.OK)
			newest := from + 2 + step
			takes(t, s, 3, newest, api.OK)
			for n := max(0, newest-66); n <= newest; n++ {
				want := api.OK
				switch {
				case newest-n >= 64:
					want = api.ErrOrder
				case n == from || n == from+2 || n == newest:
					want = api.ErrTwice
				}
				takes(t, s, 3, n, want)
			}
		}
	}
}

// Promise 9.1: the last one of all numbers, behind the first one, and none behind it.
func TestFarthestNumbers(t *testing.T) {
	s := made(t, top, 10, 0)
	takes(t, s, top, 0, api.OK)
	takes(t, s, top, top+1, api.ErrRange)
	takes(t, s, top, top, api.OK)
	takes(t, s, top, 0, api.ErrOrder)
	for _, n := range []int{top + 1, most, -1, low} {
		takes(t, s, top, n, api.ErrRange)
	}
	takes(t, s, top, top-64, api.ErrOrder)
	takes(t, s, top, top-63, api.OK)
	takes(t, s, top, top, api.ErrTwice)
}

// Promise 9.1: a new session took nothing, so that nothing is too old for it.
func TestFirstNumber(t *testing.T) {
	for _, n := range []int{0, 1, 62, 63, 64, top} {
		s := made(t, 0, 2, 0)
		takes(t, s, 0, -1, api.ErrRange)
		takes(t, s, 0, n, api.OK)
		takes(t, s, 0, n, api.ErrTwice)
	}
}

// Promise 9.1, P3: where several errors apply the one told first is answered.
func TestErrorsInOrder(t *testing.T) {
	s := made(t, 7, 2, 0)
	takes(t, s, 7, 100, api.OK)
	takes(t, s, 7, 90, api.OK)
	for _, token := range []int{6, 8, 0, -1, -7, top, top + 1, most, low} {
		for _, n := range []int{-1, top + 1, low, most, 36, 0, 90, 100, 99, 101, top} {
			takes(t, s, token, n, api.ErrName)
		}
	}
	for _, n := range []int{-1, top + 1, low, most} {
		takes(t, s, 7, n, api.ErrRange)
	}
	for _, n := range []int{0, 35, 36} {
		takes(t, s, 7, n, api.ErrOrder)
	}
	for _, n := range []int{90, 100} {
		takes(t, s, 7, n, api.ErrTwice)
	}
	for _, n := range []int{37, 89, 99, 101, 164, top} {
		takes(t, s, 7, n, api.ErrLimit)
	}
}

// Promise 9.1, P2: what was answered by an error did not come: it may come yet.
func TestErrorsChangeNothing(t *testing.T) {
	s := made(t, 7, 1, 1)
	takes(t, s, 7, 100, api.OK)
	for _, n := range []int{99, 101, 200, 37, top} {
		takes(t, s, 7, n, api.ErrLimit)
		takes(t, s, 6, n, api.ErrName)
	}
	for _, n := range []int{99, 37, 101, 200, top} {
		s.Tick()
		takes(t, s, 7, n, api.OK)
	}
}

// Promise 9.1: nothing is taken of whom nothing is granted, or nothing more.
func TestNoLimits(t *testing.T) {
	s := made(t, 1, 0, full)
	for n := range 5 {
		takes(t, s, 1, n, api.ErrLimit)
		s.Tick()
		has(t, s, 0, -1)
	}
	s = made(t, 1, 1, 0)
	takes(t, s, 1, 0, api.OK)
	for n := range 5 {
		s.Tick()
		takes(t, s, 1, 1+n, api.ErrLimit)
	}
}

// Promise 9.1: no session has to do with another one.
func TestSessionsAreApart(t *testing.T) {
	a, b := made(t, 1, 5, 1), made(t, 1, 5, 1)
	takes(t, a, 1, 500, api.OK)
	has(t, b, 5, -1)
	takes(t, b, 1, 3, api.OK)
	takes(t, b, 1, 500, api.OK)
	a.Tick()
	has(t, a, 5, 500)
	has(t, b, 3, 500)
}

// Promise 9.1: drawn calls tell what the model tells.
func TestDrawn(t *testing.T) {
	d := die(1)
	count := map[api.Errno]int{}
	for range 400 {
		token, most, each := d.upTo(5), d.upTo(12), d.upTo(4)
		s, m := made(t, token, most, each), modelOf(token, most, each)
		at := []int{0, 40, 1000, top - 300}[d.upTo(4)]
		for range 150 {
			if d.upTo(4) == 0 {
				s.Tick()
				m.tick()
			} else {
				at = d.next(at)
				number, who := at-d.upTo(2)*d.upTo(70), token+d.upTo(20)/19
				want := m.take(who, number)
				count[want]++
				takes(t, s, who, number, want)
			}
			has(t, s, m.left, m.newest())
		}
	}
	for _, e := range []api.Errno{api.OK, api.ErrName, api.ErrRange, api.ErrOrder, api.ErrTwice, api.ErrLimit} {
		if count[e] < 50 {
			t.Fatalf("%v came %d times", e, count[e])
		}
	}
}

// next is the number behind another one: near it mostly, now and then far on.
func (d *die) next(at int) int {
	switch d.upTo(40) {
	case 0:
		return at + 60 + d.upTo(10)
	case 1:
		return at + d.upTo(500)
	}
	return at + d.upTo(3)
}

// Promise 9.1: within w Ticks at most Most and w Each are taken, however many are asked for, and no number twice.
func TestNotTooOften(t *testing.T) {
	d := die(2)
	for range 60 {
		most, each := d.upTo(20), d.upTo(6)
		s := made(t, 9, most, each)
		var took, all []int // how many between two Ticks; which
		for range 30 {
			many := 0
			for range d.upTo(30) {
				n := d.upTo(400)
				if s.Take(9, n) == nil {
					many++
					all = append(all, n)
				}
			}
			took = append(took, many)
			s.Tick()
		}
		for from := range took {
			sum := 0
			for w, many := range took[from:] {
				if sum += many; sum > most+w*each {
					t.Fatalf("%d taken within %d Ticks by %d, %d", sum, w, most, each)
				}
			}
		}
		slices.Sort(all)
		if len(slices.Compact(slices.Clone(all))) != len(all) {
			t.Fatalf("a number was taken twice: %v", all)
		}
	}
}

// Promise 9.1: as many as may be are taken, and not one less.
func TestOftenEnough(t *testing.T) {
	for _, c := range []Limit{{1, 1}, {5, 2}, {5, 9}, {full, full}, {full, 7}} {
		s := made(t, 9, c.Most, c.Each)
		n := 0
		for tick := range 6 {
			want := c.Most
			if tick > 0 {
				want = min(c.Most, c.Each)
			}
			for range want {
				takes(t, s, 9, n, api.OK)
				n++
			}
			takes(t, s, 9, n, api.ErrLimit)
			s.Tick()
		}
	}
}
