package near_test

import (
	"math"
	"math/big"
	"slices"
	"testing"

	"gyre/api"
	"gyre/near"
)

const (
	box = 1 << 20
	top = 1 << 16
	far = 1 << 30
)

// at is a state of bodies at these places, each with a velocity of its own.
func at(l ...api.Vec) api.State {
	s := api.State{Step: 5}
	for i, x := range l {
		s.B = append(s.B, api.Body{X: x, V: api.Vec{i + 1, -i, 7 * i}})
	}
	return s
}

func pair(i, j, square int) api.Pair {
	return api.Pair{I: i, J: j, Square: square}
}

// within is a configuration of that Near.
func within(n int) api.Conf {
	return api.Conf{Mass: []int{1, 2, 3}, G: 10, Box: box, Top: top, Near: n, Method: api.Seven}
}

func copied(s api.State) api.State {
	r := api.State{Step: s.Step, B: make([]api.Body, len(s.B))}
	copy(r.B, s.B)
	return r
}

func alike(a, b api.State) bool {
	return a.Step == b.Step && slices.Equal(a.B, b.B)
}

// right tells by chapter 10's own words whether a state may be.
func right(s api.State) bool {
	if s.Step < -far || s.Step > far || len(s.B) < 1 || len(s.B) > 4 {
		return false
	}
	for _, b := range s.B {
		for i := range 3 {
			if b.X[i] < -box || b.X[i] > box || b.V[i] < -top || b.V[i] > top {
				return false
			}
		}
	}
	return true
}

// chance tells numbers by a rule that is the same each time.
type chance uint64

func (c *chance) next() uint64 {
	*c ^= *c << 13
	*c ^= *c >> 7
	*c ^= *c << 17
	return uint64(*c)
}

func (c *chance) number(to int) int {
	return int(c.next()%uint64(2*to+1)) - to
}

func (c *chance) state(bodies, wide int) api.State {
	l := make([]api.Vec, bodies)
	for i := range l {
		l[i] = api.Vec{c.number(wide), c.number(wide), c.number(wide)}
	}
	return at(l...)
}

// mays are states that may be.
func mays() []api.State {
	l := []api.State{
		at(api.Vec{}), at(api.Vec{box, box, box}), at(api.Vec{}, api.Vec{}), at(api.Vec{}, api.Vec{}, api.Vec{}, api.Vec{}),
		at(api.Vec{box, box, box}, api.Vec{-box, -box, -box}), at(api.Vec{box, 0, 0}, api.Vec{-box, 0, 0}, api.Vec{0, box, 0}, api.Vec{0, -box, 0}),
	}
	seed := chance(13)
	for i := range 300 {
		l = append(l, seed.state(1+i%4, []int{1, 2, 5, 1000, box}[i%5]))
	}
	return l
}

// mayNots are states that may not be, by one thing each.
func mayNots() []api.State {
	l := []api.State{{}, {Step: 1, B: []api.Body{}}, at(make([]api.Vec, 5)...), at(make([]api.Vec, 6)...), {B: make([]api.Body, 3000)}}
	for _, x := range []int{box + 1, -box - 1, 1 << 29, 1<<29 + 1, 1 << 31, 1 << 32, -1 << 32, math.MaxInt, math.MinInt} {
		for k := range 6 {
			s := at(api.Vec{1, 2, 3}, api.Vec{4, 5, 6})
			s.B[1].X[k%3] = x
			if k > 2 {
				s = at(api.Vec{1, 2, 3}, api.Vec{4, 5, 6})
				s.B[0].V[k%3] = x
			}
			l = append(l, s)
		}
	}
	for _, step := range []int{far + 1, -far - 1, math.MaxInt, math.MinInt} {
		s := at(api.Vec{}, api.Vec{1, 1, 1})
		s.Step = step
		l = append(l, s)
	}
	for i := range 3 {
		s := at(api.Vec{}, api.Vec{1, 1, 1})
		s.B[1].V[i] = -top - 1
		l = append(l, s)
	}
	return l
}

// confs are configurations that may be; badConfs are such as may not.
func confs() []api.Conf {
	l := []api.Conf{within(1), within(2), within(3), within(5), within(1000), within(box), within(2 * box)}
	return append(l, api.Conf{Mass: []int{9}, G: 1, Box: 1, Top: 1, Near: 2})
}

func badConfs() []api.Conf {
	l := []api.Conf{{}, within(0), within(-1), within(-5), within(2*box + 1), within(1 << 32), within(math.MinInt), within(math.MaxInt)}
	for k := range 5 {
		c := within(5)
		switch k {
		case 0:
			c.Mass = nil
		case 1:
			c.Mass = []int{1, 0}
		case 2:
			c.G = 0
		case 3:
			c.Top = top + 1
		case 4:
			c.Method = 5
		}
		l = append(l, c)
	}
	return append(l, api.Conf{Mass: []int{1, 2}, G: 1, Box: 1, Top: 1, Near: 3})
}

// all are a state's pairs by the chapter's words, the squares by coordinates.
func all(s api.State) []api.Pair {
	var l []api.Pair
	if !right(s) {
		return nil
	}
	for i := range s.B {
		for j := range s.B {
			if i < j {
				a, b := s.B[i].X, s.B[j].X
				x, y, z := a[0]-b[0], a[1]-b[1], a[2]-b[2]
				l = append(l, api.Pair{I: i, J: j, Square: x*x + y*y + z*z})
			}
		}
	}
	return l
}

// P13.1: pairs by hand: each two bodies once, by their places alone.
func TestPairsByHand(t *testing.T) {
	for _, c := range []struct {
		s    api.State
		want []api.Pair
	}{
		{at(api.Vec{0, 0, 0}, api.Vec{3, 0, 4}), []api.Pair{pair(0, 1, 25)}},
		{at(api.Vec{3, 0, 4}, api.Vec{0, 0, 0}), []api.Pair{pair(0, 1, 25)}},
		{at(api.Vec{1, 2, 3}), nil},
		{at(api.Vec{}, api.Vec{}), []api.Pair{pair(0, 1, 0)}},
		{at(api.Vec{1, 0, 0}, api.Vec{0, 2, 0}, api.Vec{0, 0, 3}), []api.Pair{pair(0, 1, 5), pair(0, 2, 10), pair(1, 2, 13)}},
		{at(api.Vec{0, 0, 0}, api.Vec{1, 0, 0}, api.Vec{10, 0, 0}, api.Vec{-100, 0, 0}), []api.Pair{pair(0, 1, 1), pair(0, 2, 100), pair(0, 3, 10000), pair(1, 2, 81), pair(1, 3, 10201), pair(2, 3, 12100)}},
		{at(api.Vec{box, box, box}, api.Vec{-box, -box, -box}), []api.Pair{pair(0, 1, 12<<40)}},
	} {
		if got := near.Pairs(c.s); !slices.Equal(got, c.want) {
			t.Error(c.s, got)
		}
	}
}

// P13.1: pairs, and those that are near, of states of all kinds; none of what may not be.
func TestPairs(t *testing.T) {
	for _, s := range slices.Concat(mays(), mayNots()) {
		want := all(s)
		if got := near.Pairs(s); !slices.Equal(got, want) {
			t.Error(s.Step, len(s.B), got)
		}
		for _, c := range confs() {
			var less []api.Pair
			for _, p := range want {
				if p.Square < c.Near*c.Near {
					less = append(less, p)
				}
			}
			if got := near.Near(c, s); !slices.Equal(got, less) {
				t.Error(c, s, got)
			}
		}
		for _, c := range badConfs() {
			if got := near.Near(c, s); len(got) != 0 {
				t.Error(c, s, got)
			}
		}
	}
}

// P13.1: near by hand: at the square itself no more.
func TestNearByHand(t *testing.T) {
	s := at(api.Vec{0, 0, 0}, api.Vec{3, 0, 4}, api.Vec{0, 0, 6}, api.Vec{0, 0, 100})
	ways := []api.Pair{pair(0, 1, 25), pair(0, 2, 36), pair(0, 3, 10000), pair(1, 2, 13), pair(1, 3, 9225), pair(2, 3, 8836)}
	for n, want := range map[int][]api.Pair{
		1: nil, 3: nil, 4: {ways[3]}, 5: {ways[3]}, 6: {ways[0], ways[3]}, 7: {ways[0], ways[1], ways[3]}, 94: {ways[0], ways[1], ways[3]},
		95: {ways[0], ways[1], ways[3], ways[5]}, 100: {ways[0], ways[1], ways[3], ways[4], ways[5]}, 101: ways, 2 * box: ways,
	} {
		if got := near.Near(within(n), s); !slices.Equal(got, want) {
			t.Error(n, got)
		}
	}
}

// P13.1, P13.4: the least one, the first of more; it is near, if any is.
func TestLeast(t *testing.T) {
	for _, c := range []struct {
		s    api.State
		want api.Pair
		is   bool
	}{
		{at(api.Vec{0, 0, 0}, api.Vec{3, 0, 4}), api.Pair{I: 0, J: 1, Square: 25}, true},
		{at(api.Vec{}, api.Vec{}), api.Pair{I: 0, J: 1}, true},
		{at(api.Vec{}, api.Vec{}, api.Vec{}, api.Vec{}), api.Pair{I: 0, J: 1}, true},
		{at(api.Vec{0}, api.Vec{10}, api.Vec{20}, api.Vec{30}), api.Pair{I: 0, J: 1, Square: 100}, true},
		{at(api.Vec{0}, api.Vec{11}, api.Vec{21}, api.Vec{31}), api.Pair{I: 1, J: 2, Square: 100}, true},
		{at(api.Vec{0}, api.Vec{11}, api.Vec{22}, api.Vec{32}), api.Pair{I: 2, J: 3, Square: 100}, true},
		{at(api.Vec{0}, api.Vec{50}, api.Vec{20}, api.Vec{-19}), api.Pair{I: 0, J: 3, Square: 361}, true},
		{at(api.Vec{0}, api.Vec{50}, api.Vec{-20}, api.Vec{50}), api.Pair{I: 1, J: 3}, true},
		{at(api.Vec{7}), api.Pair{}, false},
	} {
		if p, is := near.Least(c.s); p != c.want || is != c.is {
			t.Error(c.s, p, is)
		}
	}
	for _, s := range slices.Concat(mays(), mayNots()) {
		l := all(s)
		var want api.Pair
		for i, p := range l {
			if i == 0 || p.Square < want.Square {
				want = p
			}
		}
		p, is := near.Least(s)
		if p != want || is != (len(l) > 0) {
			t.Error(s.Step, len(s.B), p, is)
		}
		for _, c := range confs() {
			if got := near.Near(c, s); len(got) > 0 != (is && p.Square < c.Near*c.Near) || (len(got) > 0 && !slices.Contains(got, p)) {
				t.Error(c, s, p, got)
			}
		}
	}
}

// P13.2: what may not be goes ahead of what is near.
func TestCheck(t *testing.T) {
	two := at(api.Vec{0, 0, 0}, api.Vec{3, 0, 4})
	for n, want := range map[int]api.Errno{1: api.OK, 4: api.OK, 5: api.OK, 6: api.ErrNear, 2 * box: api.ErrNear, 2*box + 1: api.ErrArg, 0: api.ErrArg, -5: api.ErrArg, -6: api.ErrArg} {
		if e := near.Check(within(n), two); e != want {
			t.Error(n, e)
		}
	}
	for _, s := range mays() {
		for _, c := range confs() {
			want := api.OK
			for _, p := range all(s) {
				if p.Square < c.Near*c.Near {
					want = api.ErrNear
				}
			}
			if e := near.Check(c, s); e != want {
				t.Error(c, s, e)
			}
		}
		for _, c := range badConfs() {
			if e := near.Check(c, s); e != api.ErrArg {
				t.Error(c, s, e)
			}
		}
	}
	for _, s := range mayNots() {
		for _, c := range slices.Concat(confs(), badConfs()) {
			if e := near.Check(c, s); e != api.ErrArg {
				t.Error(c, s.Step, len(s.B), e)
			}
		}
	}
}

// P13.2: neither the masses nor the box of a configuration are held against the state.
func TestCheckAsksNoMore(t *testing.T) {
	c := api.Conf{Mass: []int{9}, G: 1, Box: 1, Top: 1, Near: 2}
	if e := near.Check(c, at(api.Vec{5, 5, 5}, api.Vec{box, 0, 0}, api.Vec{0, box, 0})); e != api.OK {
		t.Error(e)
	}
	if e := near.Check(c, at(api.Vec{5, 5, 5}, api.Vec{6, 6, 6})); e != api.ErrNear {
		t.Error(e)
	}
}

// P13.2: a way's root, and the next, or the root twice; whatever bodies it is of.
func TestWay(t *testing.T) {
	for _, c := range []struct{ square, low, high int }{
		{0, 0, 0}, {1, 1, 1}, {2, 1, 2}, {3, 1, 2}, {4, 2, 2}, {5, 2, 3}, {24, 4, 5}, {25, 5, 5}, {26, 5, 6},
		{12 << 40, 3632373, 3632374}, {1 << 42, 1 << 21, 1 << 21}, {1<<42 - 1, 1<<21 - 1, 1 << 21}, {1<<42 + 1, 1 << 21, 1<<21 + 1},
		{math.MaxInt, 3037000499, 3037000500}, {3037000499 * 3037000499, 3037000499, 3037000499}, {3037000499*3037000499 - 1, 3037000498, 3037000499},
		{1 << 62, 1 << 31, 1 << 31}, {-1, 0, 0}, {-4, 0, 0}, {-25, 0, 0}, {math.MinInt, 0, 0}, {math.MinInt + 1, 0, 0},
	} {
		for _, p := range []api.Pair{pair(0, 1, c.square), pair(2, 3, c.square), pair(0, 0, c.square), pair(-7, math.MaxInt, c.square)} {
			if low, high := near.Way(p); low != c.low || high != c.high {
				t.Error(p, low, high)
			}
		}
	}
}

// P13.2: the real root of a square is between a way's numbers, which are as near as can be.
func TestWayEncloses(t *testing.T) {
	seed := chance(3)
	times := func(a int) *big.Int { return new(big.Int).Mul(big.NewInt(int64(a)), big.NewInt(int64(a))) }
	for range 3000 {
		n := int(seed.next() >> (1 + seed.next()%62))
		if seed.next()%3 == 0 {
			n = int(seed.next()>>33)*int(seed.next()>>33) + int(seed.next()%3) - 1
		}
		if n < 0 {
			continue
		}
		low, high := near.Way(api.Pair{J: 1, Square: n})
		square := big.NewInt(int64(n))
		below, above := times(low).Cmp(square), times(high).Cmp(square)
		if below > 0 || above < 0 || (below == 0) != (low == high) || (above == 0) != (low == high) || high-low > 1 {
			t.Error(n, low, high)
		}
	}
}

// P13.3: by hand: each place goes on, nothing else does.
func TestMovedByHand(t *testing.T) {
	s := at(api.Vec{1, 2, 3}, api.Vec{-4, 5, box})
	s.Step = -9
	want := copied(s)
	want.B[0].X, want.B[1].X = api.Vec{11, -18, 3}, api.Vec{6, -15, box}
	if m, e := near.Moved(s, api.Vec{10, -20, 0}); !alike(m, want) || e != api.OK {
		t.Error(m, e)
	}
	for _, by := range []api.Vec{{0, 0, 1}, {box - 0, 0, 0}, {0, box - 4, 0}, {1 << 29, 0, 0}, {0, 1<<29 + 1, 0}, {0, 0, math.MaxInt}, {math.MinInt, 0, 0}, {0, -box - 3, 0}, {math.MaxInt, math.MaxInt, math.MaxInt}, {0, 0, -2*box - 1}} {
		if m, e := near.Moved(s, by); !alike(m, s) || e != api.ErrArg {
			t.Error(by, m, e)
		}
	}
	for _, by := range []api.Vec{{0, 0, 0}, {box - 1, 0, 0}, {0, box - 5, 0}, {-box + 4, -box - 2, -box - 3}, {0, 0, -box - 3}} {
		m, e := near.Moved(s, by)
		for i, b := range m.B {
			if x := s.B[i].X; b.V != s.B[i].V || b.X != (api.Vec{x[0] + by[0], x[1] + by[1], x[2] + by[2]}) {
				t.Error(by, m)
			}
		}
		if m.Step != -9 || len(m.B) != 2 || e != api.OK {
			t.Error(by, m, e)
		}
	}
}

// P13.3: a state that may not be is told as it is, though it would be one that may.
func TestMovedOfNone(t *testing.T) {
	for _, s := range mayNots() {
		for _, by := range []api.Vec{{}, {1, 1, 1}, {-1, -1, -1}, {2, 2, 2}, {-box, -box, -box}, {math.MaxInt, math.MinInt, 0}} {
			was := copied(s)
			if m, e := near.Moved(s, by); !alike(m, was) || !alike(s, was) || e != api.ErrArg {
				t.Error(s.Step, len(s.B), by, e)
			}
		}
	}
}

// P13.3, P13.4: moved, pairs are as they were; and moved back it is as it was.
func TestMoved(t *testing.T) {
	seed := chance(31)
	for _, s := range mays() {
		for range 5 {
			by := api.Vec{seed.number(3 * box / 2), seed.number(box), seed.number(5)}
			want := copied(s)
			for i := range want.B {
				for k := range 3 {
					want.B[i].X[k] += by[k]
				}
			}
			m, e := near.Moved(s, by)
			if !right(want) {
				if e != api.ErrArg || !alike(m, s) {
					t.Error(s, by, m, e)
				}
				continue
			}
			if e != api.OK || !alike(m, want) || !slices.Equal(near.Pairs(m), near.Pairs(s)) || !slices.Equal(near.Near(within(5), m), near.Near(within(5), s)) {
				t.Error(s, by, m, e)
			}
			if back, e := near.Moved(m, api.Vec{-by[0], -by[1], -by[2]}); e != api.OK || !alike(back, s) {
				t.Error(s, by, back, e)
			}
		}
	}
}

// P13.4: what is near is less than Near apart, what is not is at least as far.
func TestApart(t *testing.T) {
	for _, s := range mays() {
		for _, c := range confs() {
			is := near.Near(c, s)
			for _, p := range near.Pairs(s) {
				low, high := near.Way(p)
				if slices.Contains(is, p) && (low >= c.Near || high > c.Near) || !slices.Contains(is, p) && low < c.Near {
					t.Error(c, p, low, high)
				}
			}
		}
	}
}

// R3, R4: nothing that is handed in is changed, spare room included; what is told is nobody else's.
func TestOwnMemory(t *testing.T) {
	long := at(api.Vec{1, 2, 3}, api.Vec{4, 5, 6}, api.Vec{7, 8, 9}, api.Vec{9, 9, 9}, api.Vec{8, 8, 8})
	was := copied(long)
	c := within(1000)
	mass := append([]int(nil), c.Mass...)
	for n := range 5 {
		s := api.State{Step: 5, B: long.B[:n]}
		for range 2 {
			a, b := near.Pairs(s), near.Near(c, s)
			for _, l := range [][]api.Pair{a, b} {
				for i := range l {
					l[i] = api.Pair{I: -1, J: -1, Square: -1}
				}
				_ = append(l, api.Pair{})
			}
			near.Check(c, s)
			near.Least(s)
			for _, by := range []api.Vec{{1, 1, 1}, {}, {box, 0, 0}} {
				m, _ := near.Moved(s, by)
				for i := range m.B {
					m.B[i] = api.Body{}
				}
				_ = append(m.B, api.Body{})
			}
			if !alike(long, was) || !slices.Equal(c.Mass, mass) {
				t.Fatal(n, long)
			}
			if got := near.Pairs(s); !slices.Equal(got, all(s)) {
				t.Error(n, got)
			}
		}
	}
	s := at(api.Vec{1, 2, 3}, api.Vec{4, 5, 6})
	for _, by := range []api.Vec{{1, 1, 1}, {box, 0, 0}} {
		m, _ := near.Moved(s, by)
		was := copied(m)
		s.B[0].X[1], s.B[1].V[2] = 77, 78
		if !alike(m, was) {
			t.Error(m)
		}
		s = at(api.Vec{1, 2, 3}, api.Vec{4, 5, 6})
	}
}
