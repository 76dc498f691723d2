package pull_test

import (
	"math"
	"math/big"
	"slices"
	"testing"

	"gyre/api"
	"gyre/pull"
)

// The limits, by the chapter.
const (
	most     = 1 << 21
	farthest = 2 * api.MaxBox
	widest   = 12 * api.MaxBox * api.MaxBox
)

// asked is what a pull along a coordinate is asked by.
type asked struct{ n, d, g, m, x, square int }

func (a asked) one() (int, api.Errno) {
	return pull.One(a.n, a.d, a.g, a.m, a.x, a.square)
}

// with is what is asked with one of its numbers put otherwise.
func (a asked) with(place, n int) asked {
	*[]*int{&a.n, &a.d, &a.g, &a.m, &a.x, &a.square}[place] = n
	return a
}

// bounds are the limits of the numbers of what is asked, in order.
func bounds() [][2]int {
	return [][2]int{{-most, most}, {1, most}, {1, api.MaxG}, {1, api.MaxMass}, {-farthest, farthest}, {0, widest}}
}

// fault is the error by the chapter's words, one behind the other.
func (a asked) fault() api.Errno {
	numbers := []int{a.n, a.d, a.g, a.m, a.x, a.square}
	for i, b := range bounds() {
		if numbers[i] < b[0] || numbers[i] > b[1] {
			return api.ErrArg
		}
	}
	switch {
	case a.square == 0:
		return api.ErrZero
	case a.x*a.x > a.square:
		return api.ErrArg
	}
	return api.OK
}

func beyonds() []int {
	return []int{1 << 31, 1 << 32, 1<<32 + 1, -1 << 32, 1 << 44, 1 << 62, -1 << 62, 1<<63 - 2, math.MaxInt, math.MinInt, math.MinInt + 1}
}

// chance tells numbers by a rule that is the same each time.
type chance uint64

func (c *chance) next() uint64 {
	*c ^= *c << 13
	*c ^= *c >> 7
	*c ^= *c << 17
	return uint64(*c)
}

// between is of any size, and often near an end.
func (c *chance) between(least, to int) int {
	x := int(c.next() % uint64(to-least+1))
	switch c.next() % 4 {
	case 0:
		x >>= c.next() % 44
	case 1:
		x = to - least - x>>(c.next()%44)
	}
	return least + x
}

func (c *chance) either(to int) int {
	x := c.between(0, to)
	if c.next()%2 == 0 {
		return -x
	}
	return x
}

func (c *chance) way() api.Vec {
	to := 1 << (c.next() % 22)
	return api.Vec{c.either(to), c.either(to), c.either(to)}
}

func squareOf(dx api.Vec) int { return dx[0]*dx[0] + dx[1]*dx[1] + dx[2]*dx[2] }

func great(n int) *big.Int { return big.NewInt(int64(n)) }

func times(l ...int) *big.Int {
	p := great(1)
	for _, n := range l {
		p.Mul(p, great(n))
	}
	return p
}

// nearest tells by squares, as the chapter does, whether k is the pull.
func nearest(a asked, k int) bool {
	size := max(k, -k)
	if size > 0 && (k < 0) != ((a.n < 0) != (a.x < 0)) {
		return false
	}
	double := times(4, a.n, a.n, a.g, a.g, a.m, a.m, a.x, a.x)
	low := times(2*size-1, 2*size-1, a.d, a.d, a.square, a.square, a.square)
	high := times(2*size+1, 2*size+1, a.d, a.d, a.square, a.square, a.square)
	return (size == 0 || low.Cmp(double) <= 0) && double.Cmp(high) < 0
}

// P12.1: r^2 of ways of all kinds; a coordinate beyond, at each place and at all of them.
func TestSquare(t *testing.T) {
	for _, c := range []struct {
		dx     api.Vec
		square int
	}{
		{api.Vec{}, 0},
		{api.Vec{10, 0, 0}, 100},
		{api.Vec{0, -1, 0}, 1},
		{api.Vec{3, 4, -12}, 169},
		{api.Vec{1, 2, 3}, 14},
		{api.Vec{farthest, 0, 0}, 1 << 42},
		{api.Vec{0, 0, -farthest}, 1 << 42},
		{api.Vec{farthest, -farthest, farthest}, widest},
		{api.Vec{farthest, farthest - 1, -1}, 1<<42 + (farthest-1)*(farthest-1) + 1},
	} {
		if square, e := pull.Square(c.dx); square != c.square || e != api.OK {
			t.Error(c.dx, square, e)
		}
	}
	for _, x := range append(beyonds(), farthest+1, -farthest-1) {
		for i := range 3 {
			dx := api.Vec{1, 2, 3}
			dx[i] = x
			if square, e := pull.Square(dx); square != 0 || e != api.ErrArg {
				t.Error(dx, square, e)
			}
		}
		if square, e := pull.Square(api.Vec{x, x, x}); square != 0 || e != api.ErrArg {
			t.Error(x, square, e)
		}
	}
}

// P12.2: by hand: the chapter's examples, halves either way, and what stands beside them.
func TestOneByHand(t *testing.T) {
	for _, c := range []struct {
		asked
		k int
	}{
		{asked{1, 1, 100, 1, 10, 100}, 1},
		{asked{1, 1, 149, 1, 10, 100}, 1},
		{asked{1, 1, 150, 1, 10, 100}, 2},
		{asked{-1, 1, 150, 1, 10, 100}, -2},
		{asked{1, 1, 150, 1, -10, 100}, -2},
		{asked{-1, 1, 150, 1, -10, 100}, 2},
		{asked{1, 1, 49, 1, 10, 100}, 0},
		{asked{-1, 1, 49, 1, 10, 100}, 0},
		{asked{1, 1, 50, 1, 10, 100}, 1},
		{asked{1, 1, 50, 1, -10, 100}, -1},
		{asked{1, 1, 25, 2, 10, 100}, 1},
		{asked{5, 1, 10, 1, 10, 100}, 1},
		{asked{1, 2, 100, 1, 10, 100}, 1},
		{asked{1, 2, 99, 1, 10, 100}, 0},
		{asked{3, 2, 100, 1, 10, 100}, 2},
		{asked{0, 1, api.MaxG, api.MaxMass, 1, 1}, 0},
		{asked{most, 1, api.MaxG, api.MaxMass, 0, 1}, 0},
		// 3 and 4 of a way of 5: 375 and 500 by 750.
		{asked{1, 6, 125, 1, 3, 25}, 1},
		{asked{1, 6, 124, 1, 3, 25}, 0},
		{asked{1, 6, 125, 1, -4, 25}, -1},
		{asked{-1, 6, 93, 1, 4, 25}, 0},
		{asked{-1, 6, 94, 1, 4, 25}, -1},
		// 1000 by 2 root 2 is 353.55.., by 3 root 3 is 192.45..
		{asked{1, 1, 1000, 1, 1, 2}, 354},
		{asked{1, 1, 1000, 1, 1, 3}, 192},
		{asked{most, 1, api.MaxG, api.MaxMass, 1, 1}, 1 << 51},
		{asked{-most, 1, api.MaxG, api.MaxMass, 1, 1}, -1 << 51},
		{asked{most, 1, api.MaxG, api.MaxMass, farthest, 1 << 42}, 1 << 9},
		{asked{most, most, 1, 1, 1, 1}, 1},
		{asked{1, most, api.MaxG, 1, -1, 1}, -1},
		{asked{1, most, api.MaxG - 1, 1, -1, 1}, 0},
		// 2^72 by 12 root 12 times 2^60 is 98.53..
		{asked{most, 1, api.MaxG, api.MaxMass, farthest, widest}, 99},
	} {
		if k, e := c.one(); k != c.k || e != api.OK {
			t.Error(c.asked, k, e, "not", c.k)
		}
	}
}

// P12.2: of numbers of all sizes the pull is told by squares, for all signs.
func TestOneBySquares(t *testing.T) {
	seed := chance(5)
	for range 20000 {
		dx := seed.way()
		a := asked{seed.either(most), seed.between(1, most), seed.between(1, api.MaxG), seed.between(1, api.MaxMass), dx[0], squareOf(dx)}
		if seed.next()%2 == 0 {
			a.d = seed.between(1, 100)
		}
		k, e := a.one()
		if e != a.fault() || (e == api.OK && !nearest(a, k)) || (e != api.OK && k != 0) {
			t.Error(a, k, e)
		}
	}
}

// P12.2: pulls that are halves, and what is just below and just above them: along one coordinate there are such.
func TestOneBesideHalves(t *testing.T) {
	for x := 1; x <= 40; x++ {
		for d := 1; d <= 6; d++ {
			for odd := 1; odd <= 9; odd += 2 {
				// 2 g = odd d x^2: the pull's double is odd.
				for g := odd*d*x*x/2 - 1; g <= odd*d*x*x/2+1; g++ {
					if g < 1 {
						continue
					}
					want := 0
					for (2*want+1)*d*x*x <= 2*g {
						want++
					}
					for _, way := range []int{1, -1} {
						a := asked{1, d, g, 1, way * x, x * x}
						if k, e := a.one(); k != way*want || e != api.OK {
							t.Error(a, k, e)
						}
					}
				}
			}
		}
	}
}

// P12.2: each number at its limits and one beyond, and far beyond, whatever the others are.
func TestOneAtLimits(t *testing.T) {
	firm := asked{3, 7, 100, 5, 9, 1000}
	for place, b := range bounds() {
		for _, n := range append(beyonds(), b[0]-1, b[0], b[0]+1, b[1]-1, b[1], b[1]+1, 0, 1, -1) {
			for _, a := range []asked{firm.with(place, n), firm.with(4, 0).with(place, n), firm.with(5, widest).with(place, n), firm.with(5, 0).with(place, n)} {
				k, e := a.one()
				if e != a.fault() || (e != api.OK && k != 0) || (e == api.OK && !nearest(a, k)) {
					t.Error(a, k, e, "not", a.fault())
				}
			}
		}
	}
}

// P12.2: what is not such goes ahead of a way of nought, and that ahead of a coordinate that is longer than its way.
func TestOneInOrder(t *testing.T) {
	firm := asked{3, 7, 100, 5, 9, 81}
	for _, c := range []struct {
		asked
		e api.Errno
	}{
		{firm, api.OK},
		{firm.with(5, 80), api.ErrArg},
		{firm.with(4, -9), api.OK},
		{firm.with(4, 10), api.ErrArg},
		{firm.with(4, -10), api.ErrArg},
		{firm.with(5, 0), api.ErrZero},
		{firm.with(5, 0).with(4, 0), api.ErrZero},
		{firm.with(5, -1), api.ErrArg},
		{firm.with(5, 0).with(0, most+1), api.ErrArg},
		{firm.with(5, 0).with(1, 0), api.ErrArg},
		{firm.with(5, 0).with(2, 0), api.ErrArg},
		{firm.with(5, 0).with(3, 0), api.ErrArg},
		{firm.with(5, 0).with(4, farthest+1), api.ErrArg},
		{firm.with(4, farthest).with(5, 1<<42), api.OK},
		{firm.with(4, -farthest).with(5, 1<<42), api.OK},
		{firm.with(4, farthest).with(5, 1<<42-1), api.ErrArg},
		{firm.with(4, 1<<32), api.ErrArg},
		{firm.with(4, math.MinInt).with(5, 0), api.ErrArg},
	} {
		if k, e := c.one(); e != c.e || (e != api.OK && k != 0) {
			t.Error(c.asked, k, e, "not", c.e)
		}
	}
}

// ways are some of all kinds, and of all sizes.
func ways() []api.Vec {
	l := []api.Vec{{1, 0, 0}, {0, -1, 0}, {0, 0, 2}, {10, 0, 0}, {3, 4, 0}, {-3, 0, 4}, {1, 2, 3}, {1, 1, 1}, {farthest, 0, 0}, {farthest, -farthest, farthest}, {0, 1, farthest}}
	seed := chance(7)
	for range 150 {
		if dx := seed.way(); dx != (api.Vec{}) {
			l = append(l, dx)
		}
	}
	return l
}

// kinds are parts, constants and masses.
func kinds() []asked {
	l := []asked{
		{n: 1, d: 1, g: 100, m: 1},
		{n: 0, d: 1, g: 100, m: 1},
		{n: most, d: 1, g: api.MaxG, m: api.MaxMass},
		{n: -most, d: most, g: api.MaxG, m: api.MaxMass},
		{n: -1702414, d: 1000000, g: 5000, m: 17},
	}
	seed := chance(9)
	for range 30 {
		l = append(l, asked{n: seed.either(most), d: seed.between(1, most), g: seed.between(1, api.MaxG), m: seed.between(1, api.MaxMass)})
	}
	return l
}

// P12.3: the chapter's examples.
func TestPullByHand(t *testing.T) {
	for _, c := range []struct {
		n, d, g, m int
		dx, p      api.Vec
	}{
		{1, 1, 100, 1, api.Vec{10, 0, 0}, api.Vec{1, 0, 0}},
		{1, 1, 149, 1, api.Vec{10, 0, 0}, api.Vec{1, 0, 0}},
		{1, 1, 150, 1, api.Vec{10, 0, 0}, api.Vec{2, 0, 0}},
		{1, 1, 150, 1, api.Vec{0, 0, -10}, api.Vec{0, 0, -2}},
		{1, 1, 1250, 1, api.Vec{0, 3, -4}, api.Vec{0, 30, -40}},
		{-1, 2, 1250, 1, api.Vec{4, -3, 0}, api.Vec{-20, 15, 0}},
		{1, 1, 1000, 3, api.Vec{1, 1, -1}, api.Vec{577, 577, -577}},
		{most, 1, api.MaxG, api.MaxMass, api.Vec{0, -1, 0}, api.Vec{0, -1 << 51, 0}},
	} {
		if p, e := pull.Pull(c.n, c.d, c.g, c.m, c.dx); p != c.p || e != api.OK {
			t.Error(c, p, e)
		}
	}
}

// P12.3: along each coordinate it is what One tells.
func TestPullIsOneOfEach(t *testing.T) {
	for _, dx := range ways() {
		for _, a := range kinds() {
			p, e := pull.Pull(a.n, a.d, a.g, a.m, dx)
			if e != api.OK {
				t.Error(a, dx, e)
			}
			for i, x := range dx {
				a.x, a.square = x, squareOf(dx)
				if k, e := a.one(); p[i] != k || e != api.OK || !nearest(a, k) {
					t.Error(a, p, k, e)
				}
			}
		}
	}
}

// P12.3: a coordinate beyond goes ahead of all, then what is not such, then a way of nought; beside an error there are noughts.
func TestPullOfNone(t *testing.T) {
	for _, c := range []struct {
		n, d, g, m int
		dx         api.Vec
		e          api.Errno
	}{
		{1, 1, 100, 1, api.Vec{}, api.ErrZero},
		{0, 1, 100, 1, api.Vec{}, api.ErrZero},
		{1, 0, 100, 1, api.Vec{}, api.ErrArg},
		{most + 1, 1, 100, 1, api.Vec{}, api.ErrArg},
		{1, 1, 0, 1, api.Vec{}, api.ErrArg},
		{1, 1, 100, 0, api.Vec{}, api.ErrArg},
		{1, 1, 100, 1, api.Vec{10, 0, farthest + 1}, api.ErrArg},
		{1, 1, 100, 1, api.Vec{10, -farthest - 1, 0}, api.ErrArg},
		{1, 1, 100, 1, api.Vec{1 << 32, 0, 0}, api.ErrArg},
		{1, 1, 100, 1, api.Vec{math.MinInt, math.MinInt, math.MinInt}, api.ErrArg},
		{-most - 1, 1, 100, 1, api.Vec{1, 0, 0}, api.ErrArg},
		{1, -1, 100, 1, api.Vec{1, 0, 0}, api.ErrArg},
		{1, most + 1, 100, 1, api.Vec{1, 0, 0}, api.ErrArg},
		{1, 1, api.MaxG + 1, 1, api.Vec{1, 0, 0}, api.ErrArg},
		{1, 1, -1, 1, api.Vec{1, 0, 0}, api.ErrArg},
		{1, 1, 100, api.MaxMass + 1, api.Vec{1, 0, 0}, api.ErrArg},
		{1, 1, 100, -1, api.Vec{1, 0, 0}, api.ErrArg},
		{math.MinInt, math.MinInt, math.MinInt, math.MinInt, api.Vec{1, 0, 0}, api.ErrArg},
		{math.MaxInt, math.MaxInt, math.MaxInt, math.MaxInt, api.Vec{1, 0, 0}, api.ErrArg},
	} {
		if p, e := pull.Pull(c.n, c.d, c.g, c.m, c.dx); p != (api.Vec{}) || e != c.e {
			t.Error(c, p, e)
		}
	}
}

// P12.4: by hand: a half is not below a half.
func TestBeyondByHand(t *testing.T) {
	for _, c := range []struct {
		n, d, g, m, square int
		is                 bool
	}{
		{1, 1, 100, 1, 100, false},
		{1, 1, 50, 1, 100, false},
		{1, 1, 49, 1, 100, true},
		{-1, 1, 50, 1, 100, false},
		{-1, 1, 49, 1, 100, true},
		{1, 1, 50, 1, 101, true},
		{1, 2, 99, 1, 100, true},
		{1, 2, 50, 2, 100, false},
		{0, 1, api.MaxG, api.MaxMass, 1, true},
		{0, 1, 1, 1, 0, false},
		{1, most, 1, 1, 1, true},
		{1, most, 1, 1, 0, false},
		{1, most, api.MaxG, 1, 1, false},
		{1, most, api.MaxG - 1, 1, 1, true},
		{most, 1, api.MaxG, api.MaxMass, widest, false},
		{most, most, api.MaxG, api.MaxMass, widest, true},
		{1, 1, api.MaxG, api.MaxMass, 1 << 31, false},
		{1, 1, api.MaxG, api.MaxMass, 1<<31 + 1, true},
		{0, 1, 1, 1, widest, true},
		{0, 1, 1, 1, widest + 1, false},
		{0, 1, 1, 1, -1, false},
		{0, 0, 1, 1, 1, false},
		{0, 1, 0, 1, 1, false},
		{0, 1, 1, 0, 1, false},
		{0, 1, 1, 1, 7, true},
	} {
		if is := pull.Beyond(c.n, c.d, c.g, c.m, c.square); is != c.is {
			t.Error(c, is)
		}
	}
}

// P12.4: by the chapter's squares; no, of what One tells an error of, number by number.
func TestBeyondBySquares(t *testing.T) {
	below := func(a asked) bool {
		a.x = 0
		return a.fault() == api.OK && times(4, a.n, a.n, a.g, a.g, a.m, a.m).Cmp(times(a.d, a.d, a.square, a.square)) < 0
	}
	seed := chance(11)
	for range 20000 {
		a := asked{n: seed.either(most), d: seed.between(1, most), g: seed.between(1, api.MaxG), m: seed.between(1, api.MaxMass), square: seed.between(0, widest)}
		// Beside where it is a half, too, where that may be asked.
		half := 2 * max(a.n, -a.n) * a.g * a.m / a.d
		for _, square := range []int{a.square, half - 1, half, half + 1} {
			a.square = square
			if is := pull.Beyond(a.n, a.d, a.g, a.m, a.square); is != below(a) {
				t.Error(a, is)
			}
		}
	}
	firm := asked{n: 3, d: 7, g: 100, m: 5, square: 1000}
	for place, b := range bounds() {
		for _, n := range append(beyonds(), b[0]-1, b[0], b[0]+1, b[1]-1, b[1], b[1]+1, 0, 1, -1) {
			if place == 4 {
				continue
			}
			a := firm.with(place, n)
			if is := pull.Beyond(a.n, a.d, a.g, a.m, a.square); is != below(a) {
				t.Error(a, is)
			}
		}
	}
}

// P12.4: where it is beyond, a way's pull is noughts; where a way along one coordinate is not, it is not.
func TestBeyondIsNoPull(t *testing.T) {
	for _, dx := range ways() {
		for _, a := range kinds() {
			p, _ := pull.Pull(a.n, a.d, a.g, a.m, dx)
			is := pull.Beyond(a.n, a.d, a.g, a.m, squareOf(dx))
			if is && p != (api.Vec{}) {
				t.Error(a, dx, p)
			}
			straight := slices.Max([]int{dx[0] * dx[0], dx[1] * dx[1], dx[2] * dx[2]}) == squareOf(dx)
			if straight && !is && p == (api.Vec{}) {
				t.Error(a, dx)
			}
		}
	}
}

func turned(p api.Vec) api.Vec { return api.Vec{-p[0], -p[1], -p[2]} }

// inOrder is a point with its parts in another order.
func inOrder(p api.Vec, order [3]int) api.Vec {
	return api.Vec{p[order[0]], p[order[1]], p[order[2]]}
}

// P12.5: turned about, the other way; in another order, in that order; twice as far, no more.
func TestTurnedOrderedAndFarther(t *testing.T) {
	for _, dx := range ways() {
		for _, a := range kinds() {
			p, _ := pull.Pull(a.n, a.d, a.g, a.m, dx)
			if q, e := pull.Pull(a.n, a.d, a.g, a.m, turned(dx)); q != turned(p) || e != api.OK {
				t.Error(a, dx, q, e)
			}
			if q, e := pull.Pull(-a.n, a.d, a.g, a.m, dx); q != turned(p) || e != api.OK {
				t.Error(a, dx, q, e)
			}
			for _, order := range [][3]int{{0, 2, 1}, {1, 0, 2}, {1, 2, 0}, {2, 0, 1}, {2, 1, 0}} {
				if q, e := pull.Pull(a.n, a.d, a.g, a.m, inOrder(dx, order)); q != inOrder(p, order) || e != api.OK {
					t.Error(a, dx, order, q, e)
				}
			}
			q, e := pull.Pull(a.n, a.d, a.g, a.m, api.Vec{2 * dx[0], 2 * dx[1], 2 * dx[2]})
			for i, k := range q {
				if max(k, -k) > max(p[i], -p[i]) {
					t.Error(a, dx, p, q, e)
				}
			}
		}
	}
}

// R3: nothing is kept from call to call, not even from one that told an error.
func TestNothingIsKept(t *testing.T) {
	want, _ := pull.Pull(3, 2, 5000, 7, api.Vec{5, -6, 7})
	for range 3 {
		pull.Pull(3, 2, 5000, 7, api.Vec{5, farthest + 1, 7})
		pull.One(1, 1, 1, 1, 1, 0)
		pull.Square(api.Vec{math.MinInt, 0, 0})
		pull.Beyond(most+1, 2, 5000, 7, 110)
		if p, e := pull.Pull(3, 2, 5000, 7, api.Vec{5, -6, 7}); p != want || e != api.OK {
			t.Error(p, e)
		}
	}
}
