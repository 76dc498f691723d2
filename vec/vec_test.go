package vec_test

import (
	"math"
	"math/big"
	"slices"
	"testing"

	"gyre/api"
	"gyre/vec"
)

// most is how far from 0 a part may be, by the chapter.
const most = 1 << 29

var none = api.Vec{}

// may tells by the chapter's own words whether a point may be.
func may(a api.Vec) bool {
	for _, x := range a {
		if x < -most || x > most {
			return false
		}
	}
	return true
}

// mays are numbers that a part may be, beyonds such as none may be.
func mays() []int {
	return []int{0, 1, -1, 2, -3, 1 << 16, -1 << 20, most/2 + 1, -most / 2, most - 1, 1 - most, most, -most}
}

func beyonds() []int {
	return []int{most + 1, -most - 1, 2 * most, -2 * most, 1 << 31, 1 << 32, 1<<32 + 1, -1 << 32, 1 << 35, 1 << 61, 1 << 62, -1 << 62, math.MaxInt, math.MaxInt - 1, math.MinInt, math.MinInt + 1}
}

// withPart is a point with one part put otherwise.
func withPart(a api.Vec, i, x int) api.Vec {
	a[i] = x
	return a
}

// chance tells numbers by a rule that is the same each time.
type chance uint64

func (c *chance) next() uint64 {
	*c ^= *c << 13
	*c ^= *c >> 7
	*c ^= *c << 17
	return uint64(*c)
}

// part is of any size up to to, either way.
func (c *chance) part(to int) int {
	x := int(c.next() % uint64(to+1))
	switch c.next() % 4 {
	case 0:
		x >>= c.next() % 30
	case 1:
		x = to - x>>(c.next()%30)
	}
	if c.next()%2 == 0 {
		return -x
	}
	return x
}

func (c *chance) point(to int) api.Vec {
	return api.Vec{c.part(to), c.part(to), c.part(to)}
}

// points are edges, part by part and all at once, and some of all sizes.
func points() []api.Vec {
	l := []api.Vec{{}, {1, 0, 0}, {0, 1, 0}, {0, 0, 1}, {1, -2, 3}, {most, -most, most}, {-most, most, 1}}
	for _, x := range slices.Concat(mays(), beyonds()) {
		l = append(l, api.Vec{x, x, x})
		for i := range 3 {
			l = append(l, withPart(none, i, x), withPart(api.Vec{5, -7, 11}, i, x))
		}
	}
	seed := chance(3)
	for range 30 {
		l = append(l, seed.point(most), seed.point(2*most))
	}
	return l
}

func great(n int) *big.Int { return big.NewInt(int64(n)) }

// told is the point of great parts, if it may be, and the points that it came of.
func told(parts [3]*big.Int, of ...api.Vec) (api.Vec, api.Errno) {
	var r api.Vec
	for i, x := range parts {
		if x.CmpAbs(great(most)) > 0 {
			return none, api.ErrOver
		}
		r[i] = int(x.Int64())
	}
	if slices.ContainsFunc(of, func(a api.Vec) bool { return !may(a) }) {
		return none, api.ErrOver
	}
	return r, api.OK
}

// each is what is told of the parts of two points.
func each(a, b api.Vec, tell func(x, y *big.Int) *big.Int) [3]*big.Int {
	var r [3]*big.Int
	for i := range r {
		r[i] = tell(great(a[i]), great(b[i]))
	}
	return r
}

func plus(x, y *big.Int) *big.Int  { return new(big.Int).Add(x, y) }
func less(x, y *big.Int) *big.Int  { return new(big.Int).Sub(x, y) }
func times(x, y *big.Int) *big.Int { return new(big.Int).Mul(x, y) }

// dot is told by great numbers.
func dot(a, b api.Vec) *big.Int {
	s := new(big.Int)
	for _, p := range each(a, b, times) {
		s.Add(s, p)
	}
	return s
}

// P9.1: each of a point's parts is asked, both ends stand within.
func TestFine(t *testing.T) {
	for i := range 3 {
		for _, x := range mays() {
			for _, a := range []api.Vec{withPart(none, i, x), withPart(api.Vec{most, -most, most}, i, x), {x, x, x}} {
				if !vec.Fine(a) {
					t.Error(a)
				}
			}
		}
		for _, x := range beyonds() {
			for _, a := range []api.Vec{withPart(none, i, x), withPart(api.Vec{most, -most, most}, i, x), {x, x, x}} {
				if vec.Fine(a) {
					t.Error(a)
				}
			}
		}
	}
}

// P9.1: all points are asked, wherever they stand; of none at all, all may be.
func TestFineOfMany(t *testing.T) {
	if !vec.Fine() || !vec.Fine([]api.Vec(nil)...) || !vec.Fine([]api.Vec{}...) {
		t.Error("none")
	}
	for n := 1; n <= 6; n++ {
		l := make([]api.Vec, n)
		for i := range l {
			l[i] = api.Vec{most, i, -most}
		}
		if !vec.Fine(l...) {
			t.Error(l)
		}
		for i := range l {
			for part := range 3 {
				for _, x := range []int{most + 1, -most - 1, math.MinInt} {
					other := slices.Clone(l)
					other[i][part] = x
					if vec.Fine(other...) {
						t.Error(other)
					}
				}
			}
		}
	}
}

// P9.1: within, of any point, and of any number, below 0 too.
func TestWithin(t *testing.T) {
	for _, c := range []struct {
		a    api.Vec
		most int
		want bool
	}{
		{api.Vec{}, 0, true},
		{api.Vec{}, -1, false},
		{api.Vec{}, math.MinInt, false},
		{api.Vec{}, math.MaxInt, true},
		{api.Vec{-1, -1, -1}, -1, false},
		{api.Vec{1, 1, 1}, -1, false},
		{api.Vec{1, -1, 1}, -1, false},
		{api.Vec{math.MinInt, math.MinInt, math.MinInt}, math.MinInt, false},
		{api.Vec{math.MaxInt, math.MaxInt, math.MaxInt}, -math.MaxInt, false},
		{api.Vec{1, 0, 0}, 0, false},
		{api.Vec{0, -1, 0}, 0, false},
		{api.Vec{0, 0, 1}, 0, false},
		{api.Vec{4, -4, 4}, 4, true},
		{api.Vec{4, -4, 4}, 3, false},
		{api.Vec{5, 0, 0}, 4, false},
		{api.Vec{0, -5, 0}, 4, false},
		{api.Vec{0, 0, -5}, 4, false},
		{api.Vec{api.MaxBox, -api.MaxBox, 0}, api.MaxBox, true},
		{api.Vec{0, 0, api.MaxBox + 1}, api.MaxBox, false},
		{api.Vec{2 * most, -2 * most, 0}, 2 * most, true},
		{api.Vec{math.MaxInt, -math.MaxInt, 0}, math.MaxInt, true},
		{api.Vec{math.MaxInt, 0, 0}, math.MaxInt - 1, false},
		{api.Vec{0, math.MinInt, 0}, math.MaxInt, false},
	} {
		if got := vec.Within(c.a, c.most); got != c.want {
			t.Errorf("Within(%v, %d) = %v", c.a, c.most, got)
		}
	}
}

// P9.1: within, each point against each number, by great numbers.
func TestWithinAll(t *testing.T) {
	for _, a := range points() {
		for _, n := range slices.Concat(mays(), beyonds()) {
			want := n >= 0
			for _, x := range a {
				want = want && great(x).CmpAbs(great(n)) <= 0
			}
			if got := vec.Within(a, n); got != want {
				t.Errorf("Within(%v, %d) = %v", a, n, got)
			}
		}
		if got := vec.Fine(a); got != may(a) {
			t.Errorf("Fine(%v) = %v", a, got)
		}
	}
}

// P9.1: turned about, each part is; the least int stays as it is.
func TestNeg(t *testing.T) {
	for _, c := range []struct{ a, want api.Vec }{
		{api.Vec{}, api.Vec{}},
		{api.Vec{1, -2, 3}, api.Vec{-1, 2, -3}},
		{api.Vec{most, -most, most + 1}, api.Vec{-most, most, -most - 1}},
		{api.Vec{math.MinInt, 0, 0}, api.Vec{math.MinInt, 0, 0}},
		{api.Vec{7, math.MinInt, math.MaxInt}, api.Vec{-7, math.MinInt, -math.MaxInt}},
		{api.Vec{-math.MaxInt, 1, math.MinInt}, api.Vec{math.MaxInt, -1, math.MinInt}},
	} {
		if got := vec.Neg(c.a); got != c.want {
			t.Errorf("Neg(%v) = %v", c.a, got)
		}
	}
	for _, a := range points() {
		if got := vec.Neg(vec.Neg(a)); got != a {
			t.Errorf("%v: turned about twice %v", a, got)
		}
	}
}

// P9.2: sums, differences and products by a number, by hand: at the ends, and a bit beyond them.
func TestByHand(t *testing.T) {
	type answer struct {
		r api.Vec
		e api.Errno
	}
	of := func(r api.Vec, e api.Errno) answer { return answer{r, e} }
	good := func(x, y, z int) answer { return answer{api.Vec{x, y, z}, api.OK} }
	over := answer{none, api.ErrOver}
	for i, c := range []struct{ is, want answer }{
		{of(vec.Add(api.Vec{1, -2, 3}, api.Vec{10, 20, -30})), good(11, 18, -27)},
		{of(vec.Sub(api.Vec{1, -2, 3}, api.Vec{10, 20, -30})), good(-9, -22, 33)},
		{of(vec.Times(api.Vec{1, -2, 3}, 4)), good(4, -8, 12)},
		{of(vec.Times(api.Vec{1, -2, 3}, -4)), good(-4, 8, -12)},
		{of(vec.Times(api.Vec{most, -most, 9}, 0)), good(0, 0, 0)},
		{of(vec.Times(api.Vec{most, -most, 9}, 1)), good(most, -most, 9)},
		{of(vec.Times(api.Vec{most, -most, 9}, -1)), good(-most, most, -9)},
		{of(vec.Add(api.Vec{most, 0, 0}, api.Vec{-most, most, -most})), good(0, most, -most)},
		{of(vec.Add(api.Vec{most, 0, 0}, api.Vec{1, 0, 0})), over},
		{of(vec.Add(api.Vec{0, -most, 0}, api.Vec{0, -1, 0})), over},
		{of(vec.Add(api.Vec{0, 0, 1}, api.Vec{0, 0, most})), over},
		{of(vec.Add(api.Vec{0, 0, -1}, api.Vec{0, 0, most})), good(0, 0, most-1)},
		{of(vec.Sub(api.Vec{most, 0, 0}, api.Vec{most, most, -most})), good(0, -most, most)},
		{of(vec.Sub(api.Vec{most, 0, 0}, api.Vec{-1, 0, 0})), over},
		{of(vec.Sub(api.Vec{0, -1, 0}, api.Vec{0, most, 0})), over},
		// What comes would be a point, but what it comes of is none.
		{of(vec.Add(api.Vec{most + 1, 0, 0}, api.Vec{-1, 0, 0})), over},
		{of(vec.Add(api.Vec{-1, 0, 0}, api.Vec{most + 1, 0, 0})), over},
		{of(vec.Add(api.Vec{0, math.MaxInt, 0}, api.Vec{0, math.MinInt, 0})), over},
		{of(vec.Add(api.Vec{0, 0, math.MinInt}, api.Vec{0, 0, math.MinInt})), over},
		{of(vec.Sub(api.Vec{most + 1, 0, 0}, api.Vec{1, 0, 0})), over},
		{of(vec.Sub(api.Vec{0, 0, 0}, api.Vec{0, -most - 1, 0})), over},
		{of(vec.Sub(api.Vec{0, 0, math.MinInt}, api.Vec{0, 0, math.MinInt})), over},
		{of(vec.Times(api.Vec{most + 1, 0, 0}, 0)), over},
		{of(vec.Times(api.Vec{0, -most - 1, 0}, 1)), over},
		{of(vec.Times(api.Vec{0, 0, math.MinInt}, 2)), over},
		// Products that would go round and come to 0, or near it.
		{of(vec.Times(api.Vec{most, 0, 0}, 1<<35)), over},
		{of(vec.Times(api.Vec{0, 2, 0}, math.MinInt)), over},
		{of(vec.Times(api.Vec{0, 0, -4}, 1<<62)), over},
		{of(vec.Times(api.Vec{0, 0, 1 << 16}, 1<<48+1)), over},
		{of(vec.Times(api.Vec{1, 0, 0}, math.MinInt)), over},
		// Of a part 0 all products are 0.
		{of(vec.Times(none, math.MaxInt)), good(0, 0, 0)},
		{of(vec.Times(none, math.MinInt)), good(0, 0, 0)},
		{of(vec.Times(api.Vec{1, -1, 0}, most)), good(most, -most, 0)},
		{of(vec.Times(api.Vec{1, -1, 0}, -most)), good(-most, most, 0)},
		{of(vec.Times(api.Vec{1, 0, 0}, most+1)), over},
		{of(vec.Times(api.Vec{0, 1, 0}, -most-1)), over},
		{of(vec.Times(api.Vec{0, 0, 1 << 14}, 1<<15)), good(0, 0, most)},
		{of(vec.Times(api.Vec{0, 0, 1 << 14}, 1<<15+1)), over},
	} {
		if c.is != c.want {
			t.Error(i, c.is, c.want)
		}
	}
}

// P9.2: each point beside each, by great numbers.
func TestSums(t *testing.T) {
	l := points()
	for _, a := range l {
		for _, b := range l {
			want, wantE := told(each(a, b, plus), a, b)
			if r, e := vec.Add(a, b); r != want || e != wantE {
				t.Errorf("Add(%v, %v) = %v, %d", a, b, r, e)
			}
			want, wantE = told(each(a, b, less), a, b)
			if r, e := vec.Sub(a, b); r != want || e != wantE {
				t.Errorf("Sub(%v, %v) = %v, %d", a, b, r, e)
			}
		}
	}
}

// P9.2: each point so many times, by great numbers.
func TestTimes(t *testing.T) {
	seed := chance(5)
	many := slices.Concat(mays(), beyonds(), []int{4, 7, 1 << 10, -1 << 15, 1 << 34, 1<<34 + 1, 1 << 48, 1 << 63 / 3})
	for range 40 {
		many = append(many, seed.part(1<<20), int(seed.next()))
	}
	for _, a := range points() {
		for _, n := range many {
			want, wantE := told(each(a, api.Vec{n, n, n}, times), a)
			if r, e := vec.Times(a, n); r != want || e != wantE {
				t.Errorf("Times(%v, %d) = %v, %d", a, n, r, e)
			}
		}
	}
}

// P9.3: by hand, with the example, and the greatest that may come.
func TestProductsByHand(t *testing.T) {
	for _, c := range []struct {
		a, b     api.Vec
		dot, far int
		cross    [3]int
	}{
		{api.Vec{1, 0, 0}, api.Vec{0, 1, 0}, 0, 2, [3]int{0, 0, 1}},
		{api.Vec{0, 1, 0}, api.Vec{1, 0, 0}, 0, 2, [3]int{0, 0, -1}},
		{api.Vec{0, 1, 0}, api.Vec{0, 0, 1}, 0, 2, [3]int{1, 0, 0}},
		{api.Vec{0, 0, 1}, api.Vec{1, 0, 0}, 0, 2, [3]int{0, 1, 0}},
		{api.Vec{1, 2, 3}, api.Vec{4, -5, 6}, 12, 67, [3]int{27, 6, -13}},
		{api.Vec{3, 0, 4}, none, 0, 25, [3]int{}},
		{api.Vec{2, 4, 6}, api.Vec{2, 4, 6}, 56, 0, [3]int{}},
		{api.Vec{most, most, most}, none, 0, 3 << 58, [3]int{}},
		{none, api.Vec{-most, most, -most}, 0, 3 << 58, [3]int{}},
		{api.Vec{most, most, most}, api.Vec{most, most, most}, 3 << 58, 0, [3]int{}},
		{api.Vec{most, 0, most}, api.Vec{0, most, 0}, 0, 3 << 58, [3]int{-1 << 58, 0, 1 << 58}},
	} {
		if n, e := vec.Dot(c.a, c.b); n != c.dot || e != api.OK {
			t.Errorf("Dot(%v, %v) = %d, %d", c.a, c.b, n, e)
		}
		if n, e := vec.Far2(c.a, c.b); n != c.far || e != api.OK {
			t.Errorf("Far2(%v, %v) = %d, %d", c.a, c.b, n, e)
		}
		if r, e := vec.Cross(c.a, c.b); r != c.cross || e != api.OK {
			t.Errorf("Cross(%v, %v) = %v, %d", c.a, c.b, r, e)
		}
	}
	if n, e := vec.Dot(api.Vec{most, most, -most}, api.Vec{-most, -most, most}); n != -3<<58 || e != api.OK {
		t.Error(n, e)
	}
	if r, e := vec.Cross(api.Vec{0, most, -most}, api.Vec{0, most, most}); r != [3]int{1 << 59, 0, 0} || e != api.OK {
		t.Error(r, e)
	}
}

// P9.3: each point beside each, by great numbers; of what may not be, noughts.
func TestProducts(t *testing.T) {
	l := points()
	for _, a := range l {
		for _, b := range l {
			dotWant, crossWant, wantE := 0, [3]int{}, api.ErrOver
			if may(a) && may(b) {
				dotWant, wantE = int(dot(a, b).Int64()), api.OK
				crossWant = [3]int{a[1]*b[2] - a[2]*b[1], a[2]*b[0] - a[0]*b[2], a[0]*b[1] - a[1]*b[0]}
			}
			if n, e := vec.Dot(a, b); n != dotWant || e != wantE {
				t.Errorf("Dot(%v, %v) = %d, %d", a, b, n, e)
			}
			if r, e := vec.Cross(a, b); r != crossWant || e != wantE {
				t.Errorf("Cross(%v, %v) = %v, %d", a, b, r, e)
			}
			d, wantE := told(each(a, b, less), a, b)
			if n, e := vec.Far2(a, b); great(n).Cmp(dot(d, d)) != 0 || e != wantE {
				t.Errorf("Far2(%v, %v) = %d, %d", a, b, n, e)
			}
		}
	}
}

// P9.3: of points that may not be, and of ways that may not be, ErrOver and noughts.
func TestProductsOver(t *testing.T) {
	for i := range 3 {
		for _, x := range beyonds() {
			b := withPart(api.Vec{1, 2, 3}, i, x)
			// Of b and itself the way would be 0.
			for _, pair := range [][2]api.Vec{{none, b}, {b, none}, {b, b}, {{1, 2, 3}, b}, {b, {1, 2, 3}}} {
				if n, e := vec.Dot(pair[0], pair[1]); n != 0 || e != api.ErrOver {
					t.Errorf("Dot(%v) = %d, %d", pair, n, e)
				}
				if r, e := vec.Cross(pair[0], pair[1]); r != [3]int{} || e != api.ErrOver {
					t.Errorf("Cross(%v) = %v, %d", pair, r, e)
				}
				if n, e := vec.Far2(pair[0], pair[1]); n != 0 || e != api.ErrOver {
					t.Errorf("Far2(%v) = %d, %d", pair, n, e)
				}
			}
		}
		for _, pair := range [][2]int{{most, -1}, {-1, most}, {-most, 1}, {1, -most}, {most, -most}, {-most, most}} {
			a, b := withPart(none, i, pair[0]), withPart(none, i, pair[1])
			if n, e := vec.Far2(a, b); n != 0 || e != api.ErrOver {
				t.Errorf("Far2(%v, %v) = %d, %d", a, b, n, e)
			}
		}
		a, b := withPart(none, i, most/2), withPart(none, i, -most/2)
		if n, e := vec.Far2(a, b); n != 1<<58 || e != api.OK {
			t.Errorf("Far2(%v, %v) = %d, %d", a, b, n, e)
		}
	}
}

// ofThree is the dot of three numbers that may be greater than a point's, with a point.
func ofThree(c [3]int, a api.Vec) *big.Int { return dot(api.Vec(c), a) }

// some are points that may be, two by two, some of them in one line or upright on each other.
func some(seed chance, many int) [][2]api.Vec {
	var l [][2]api.Vec
	for range many {
		a, b := seed.point(most), seed.point(most)
		small := seed.point(1000)
		twice := api.Vec{2 * small[0], 2 * small[1], 2 * small[2]}
		l = append(l, [2]api.Vec{a, b}, [2]api.Vec{small, twice}, [2]api.Vec{a, {-a[1], a[0], 0}}, [2]api.Vec{a, a}, [2]api.Vec{a, none})
	}
	return l
}

// P9.4: a cross stands upright on both; squares of the dot and of the cross are the product of both squares.
func TestUpright(t *testing.T) {
	for _, p := range some(7, 1000) {
		a, b := p[0], p[1]
		c, e := vec.Cross(a, b)
		if e != api.OK || ofThree(c, a).Sign() != 0 || ofThree(c, b).Sign() != 0 {
			t.Errorf("%v, %v: %v, %d", a, b, c, e)
		}
		d, _ := vec.Dot(a, b)
		square, _ := vec.Dot(a, a)
		other, _ := vec.Far2(none, b)
		both := plus(times(great(d), great(d)), ofThree(c, api.Vec(c)))
		if both.Cmp(times(great(square), great(other))) != 0 {
			t.Errorf("%v, %v: %v", a, b, both)
		}
		if turned, _ := vec.Cross(b, a); vec.Neg(turned) != c {
			t.Errorf("%v, %v: %v, the other way about %v", a, b, c, turned)
		}
	}
}

// P9.4: of three points no way is longer than the two others: its square less theirs is at most twice the root of theirs.
func TestThreePoints(t *testing.T) {
	seed := chance(11)
	for range 3000 {
		a, b, c := seed.point(most/2), seed.point(most/2), seed.point(most/2)
		if seed.next()%3 == 0 {
			// In one line the ways are just as long.
			c, _ = vec.Sub(b, a)
			c, _ = vec.Add(b, c)
		}
		if !may(c) || !vec.Within(c, most/2) {
			continue
		}
		way := func(x, y api.Vec) *big.Int {
			n, e := vec.Far2(x, y)
			if back, _ := vec.Far2(y, x); e != api.OK || back != n {
				t.Error(x, y, n, back, e)
			}
			return great(n)
		}
		s, u, long := way(a, b), way(b, c), way(a, c)
		more := less(less(long, s), u)
		if more.Sign() > 0 && times(more, more).Cmp(times(great(4), times(s, u))) > 0 {
			t.Error(a, b, c)
		}
	}
}

// P9.4: what was added is taken away again.
func TestForthAndBack(t *testing.T) {
	seed := chance(13)
	for range 2000 {
		a, b := seed.point(most/2), seed.point(most/2)
		s, e := vec.Add(a, b)
		if back, f := vec.Sub(s, b); back != a || e != api.OK || f != api.OK {
			t.Error(a, b, s, back)
		}
		d, _ := vec.Sub(a, b)
		if other, _ := vec.Add(a, vec.Neg(b)); other != d {
			t.Error(a, b, d, other)
		}
		twice, _ := vec.Add(a, a)
		if other, f := vec.Times(a, 2); other != twice || f != api.OK {
			t.Error(a, twice, other)
		}
	}
}

// R4: points that are handed in as a list stay as they are, with the spare room behind them.
func TestListsAreNotChanged(t *testing.T) {
	room := []api.Vec{{1, 2, 3}, {math.MaxInt, math.MinInt, 4}, {most, -most, most + 1}, {7, 8, 9}}
	was := slices.Clone(room)
	for n := range len(room) + 1 {
		vec.Fine(room[:n]...)
	}
	if !slices.Equal(room, was) {
		t.Error(room)
	}
}

// R3: no call hangs on what was called before.
func TestNothingIsKept(t *testing.T) {
	type all struct {
		sum, less, times, neg api.Vec
		cross                 [3]int
		dot, far              int
		fine, within          bool
		e                     [6]api.Errno
	}
	of := func(a, b api.Vec) (r all) {
		r.sum, r.e[0] = vec.Add(a, b)
		r.less, r.e[1] = vec.Sub(a, b)
		r.times, r.e[2] = vec.Times(a, b[0])
		r.cross, r.e[3] = vec.Cross(a, b)
		r.dot, r.e[4] = vec.Dot(a, b)
		r.far, r.e[5] = vec.Far2(a, b)
		r.neg, r.fine, r.within = vec.Neg(a), vec.Fine(a, b), vec.Within(a, b[1])
		return r
	}
	l := points()
	var first []all
	for i, a := range l {
		first = append(first, of(a, l[len(l)-1-i]))
	}
	for i := len(l) - 1; i >= 0; i-- {
		if again := of(l[i], l[len(l)-1-i]); again != first[i] {
			t.Error(l[i], first[i], again)
		}
	}
}
