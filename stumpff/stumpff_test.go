package stumpff_test

import (
	"math"
	"math/big"
	"slices"
	"testing"

	"gyre/api"
	"gyre/inv"
	"gyre/ival"
	"gyre/stumpff"
	"gyre/wave"
)

const (
	one  = api.One
	most = api.MaxIval
	far  = 16 * one
)

var bad = api.Ival{Bad: true}

// is tells by the document's own words whether an interval may be.
func is(a api.Ival) bool {
	return !a.Bad && -most <= a.Lo && a.Lo <= a.Hi && a.Hi <= most
}

func great(n int) *big.Int { return big.NewInt(int64(n)) }

// part of two ends: they are turned about, and divided by d, which is above 0, outward.
func part(a [2]*big.Int, d int) [2]*big.Int {
	floor := func(n *big.Int) *big.Int { return new(big.Int).Div(n, great(d)) }
	lo, hi := floor(new(big.Int).Neg(a[1])), floor(a[0])
	return [2]*big.Int{lo, hi.Neg(hi)}
}

// times p, by One, outward.
func times(a [2]*big.Int, p int) [2]*big.Int {
	lo, hi := new(big.Int).Mul(a[0], great(p)), new(big.Int).Mul(a[1], great(p))
	if p < 0 {
		lo, hi = hi, lo
	}
	hi.Neg(hi)
	lo.Div(lo, great(one))
	hi.Div(hi, great(one))
	return [2]*big.Int{lo, hi.Neg(hi)}
}

// series tells a point's terms by the chapter's own words, by great numbers.
func series(k, p int) [15][2]*big.Int {
	u := [2]*big.Int{great(one), great(one)}
	switch k {
	case 2:
		u = [2]*big.Int{great(one / 2), great(one / 2)}
	case 3:
		u = [2]*big.Int{great(one / 6), great(one/6 + 1)}
	}
	var l [15][2]*big.Int
	for n := range l {
		l[n] = u
		u = part(times(u, p), (k+2*n+1)*(k+2*n+2))
	}
	return l
}

func told(a [2]*big.Int) api.Ival {
	return api.Ival{Lo: int(a[0].Int64()), Hi: int(a[1].Int64())}
}

// enclosure tells a point's enclosure by great numbers.
func enclosure(k, p int) api.Ival {
	l := series(k, p)
	lo, hi := great(0), great(0)
	for _, u := range l[:14] {
		lo.Add(lo, u[0])
		hi.Add(hi, u[1])
	}
	final := told(l[14])
	r := 2 * max(final.Lo, -final.Lo, final.Hi, -final.Hi)
	return api.Ival{Lo: int(lo.Int64()) - r, Hi: int(hi.Int64()) + r}
}

// of tells what C does, by great numbers.
func of(k int, a api.Ival) api.Ival {
	if k < 0 || k > 3 || !is(a) || a.Lo < -far || a.Hi > far {
		return bad
	}
	m, reach, _ := wave.Middle(a)
	e := enclosure(k, m)
	return api.Ival{Lo: e.Lo - 4*reach, Hi: e.Hi + 4*reach}
}

// fine is how many bits the real numbers below have behind those of fixed point.
const fine = 100

// real tells the real series, times One and 2^fine, no farther off than 2^50.
func real(k, p int) *big.Int {
	sum, d := new(big.Int), 1
	for i := range k {
		d *= i + 1
	}
	u := new(big.Int).Lsh(great(one), fine)
	u.Quo(u, great(d))
	for n := k; u.Sign() != 0; n += 2 {
		sum.Add(sum, u)
		u = new(big.Int).Mul(u, great(-p))
		u.Quo(u, great(one)).Quo(u, great((n+1)*(n+2)))
	}
	return sum
}

// holds tells whether a real number, which may itself be a bit off, is between two ends.
func holds(a api.Ival, s *big.Int) bool {
	bit := new(big.Int).Lsh(great(1), 50)
	lo, hi := new(big.Int).Lsh(great(a.Lo), fine), new(big.Int).Lsh(great(a.Hi), fine)
	return is(a) && lo.Sub(lo, bit).Cmp(s) <= 0 && s.Cmp(hi.Add(hi, bit)) <= 0
}

// points are those that the chapter names, what stands beside them, and such as come of right angles, squared.
func points() []int {
	var l []int
	for _, p := range []int{0, 1, 7, 1 << 10, 1 << 15, 1 << 20, one / 4, one / 2, one, 2 * one, 4 * one, 9 * one, 15 * one, far, 2649351758, 10597407032} {
		for d := -2; d <= 2; d++ {
			if p+d <= far {
				l = append(l, p+d, -p-d)
			}
		}
	}
	return l
}

// beyond are numbers of which no series is told.
func beyond() []int {
	return []int{far + 1, -far - 1, far + 2, 17 * one, -17 * one, 1 << 45, -1 << 45, most, -most, most + 1, -most - 1, math.MaxInt, math.MinInt, math.MinInt + 1}
}

// others are numbers of no series.
func others() []int {
	return []int{-1, 4, 5, -2, -3, -4, 8, 15, 1 << 32, 1<<32 + 1, -1 << 32, math.MaxInt, math.MinInt}
}

// such are some intervals that may not be.
func such() []api.Ival {
	return []api.Ival{
		bad, {Lo: 1, Hi: 2, Bad: true}, {Lo: 2, Hi: 1}, {Lo: one, Hi: -one}, {Lo: 0, Hi: most + 1}, {Lo: -most - 1, Hi: 0}, {Lo: -most - 1, Hi: most + 1},
		{Lo: far, Hi: -far}, {Lo: math.MinInt, Hi: math.MaxInt}, {Lo: math.MaxInt, Hi: math.MinInt}, {Lo: math.MinInt, Hi: math.MinInt}, {Lo: math.MaxInt, Hi: math.MaxInt},
	}
}

// chance tells numbers by a rule that is the same each time.
type chance uint64

func (c *chance) next() uint64 {
	*c ^= *c << 13
	*c ^= *c >> 7
	*c ^= *c << 17
	return uint64(*c)
}

// point is of any size, from -to to it.
func (c *chance) point(to int) int {
	p := int(c.next() % uint64(to+1))
	if c.next()%3 == 0 {
		p >>= c.next() % 34
	}
	if c.next()%2 == 0 {
		return -p
	}
	return p
}

// around is an interval of points from -to to it; of two one is narrow.
func (c *chance) around(to int) api.Ival {
	a, b := c.point(to), c.point(to)
	if c.next()%2 == 0 {
		b = min(a+int(c.next()%9), to)
	}
	return api.Ival{Lo: min(a, b), Hi: max(a, b)}
}

// number is one of a's: often one of its ends.
func (c *chance) number(a api.Ival) int {
	switch c.next() % 4 {
	case 0:
		return a.Lo
	case 1:
		return a.Hi
	}
	return a.Lo + int(c.next()%uint64(a.Hi-a.Lo+1))
}

// intervals are those of all points with some others, such as are in order or not, and some of all sizes.
func intervals() []api.Ival {
	var l []api.Ival
	some := []int{0, 1, -1, 2, one, -one, far - 1, far, 1 - far, -far, far + 1, -far - 1, most, -most}
	for _, lo := range slices.Concat(points(), beyond()) {
		l = append(l, api.Ival{Lo: lo, Hi: lo}, api.Ival{Lo: lo, Hi: lo + 1})
		for _, hi := range some {
			l = append(l, api.Ival{Lo: lo, Hi: hi}, api.Ival{Lo: hi, Hi: lo})
		}
	}
	seed := chance(3)
	for range 1000 {
		l = append(l, seed.around(far))
	}
	return l
}

// P8.1: terms, told by hand.
func TestTermByHand(t *testing.T) {
	for _, c := range []struct{ k, p, n, lo, hi int }{
		{0, 0, 0, one, one},
		{1, 0, 0, one, one},
		{2, 0, 0, one / 2, one / 2},
		{3, 0, 0, 178956970, 178956971},
		{0, far, 0, one, one},
		{1, -far, 0, one, one},
		{2, far, 0, one / 2, one / 2},
		{3, -far, 0, 178956970, 178956971},
		{0, 0, 1, 0, 0},
		{3, 0, 1, 0, 0},
		{2, 0, 14, 0, 0},
		// 1 by 2, by 6, by 24, by 120, and by 24, 120, 720, 5040: one outward from another.
		{0, one, 1, -one / 2, -one / 2},
		{1, one, 1, -178956971, -178956970},
		{2, one, 1, -44739243, -44739242},
		{3, one, 1, -8947849, -8947848},
		{0, one, 2, 44739242, 44739243},
		{1, one, 2, 8947848, 8947849},
		{2, one, 2, 1491308, 1491309},
		{3, one, 2, 213044, 213045},
		{0, -one, 1, one / 2, one / 2},
		{1, -one, 1, 178956970, 178956971},
		{0, far, 1, -8 * one, -8 * one},
		{0, -far, 1, 8 * one, 8 * one},
		{0, far, 2, 11453246122, 11453246123},
		{0, -far, 2, 11453246122, 11453246123},
		{2, far, 1, -715827883, -715827882},
		// What the least number comes to is between 0 and the least number.
		{0, 1, 1, -1, 0},
		{0, 1, 2, 0, 1},
		{0, -1, 1, 0, 1},
		{0, -1, 2, 0, 1},
		{3, 1, 1, -1, 0},
		{3, 1, 14, 0, 1},
		{3, -1, 14, 0, 1},
		{0, one, 14, 0, 1},
		{0, one, 13, -1, 0},
	} {
		if got, want := stumpff.Term(c.k, c.p, c.n), (api.Ival{Lo: c.lo, Hi: c.hi}); got != want {
			t.Errorf("%d, %d, %d: %v, not %v", c.k, c.p, c.n, got, want)
		}
	}
}

// P8.1: terms of all points that the chapter names, and of others, by great numbers.
func TestTerm(t *testing.T) {
	l := points()
	seed := chance(5)
	for range 300 {
		l = append(l, seed.point(far))
	}
	for _, p := range l {
		for k := range 4 {
			for n, want := range series(k, p) {
				if got := stumpff.Term(k, p, n); got != told(want) {
					t.Errorf("%d, %d, %d: %v, not %v", k, p, n, got, want)
				}
			}
		}
	}
}

// P8.1: no term of a series that there is not, of a number beyond 16 One, and none but the first fifteen.
func TestTermOfNone(t *testing.T) {
	places := []int{-1, 15, 16, -14, 29, 1 << 32, 1<<32 + 1, math.MaxInt, math.MinInt}
	check := func(k, p, n int) {
		if got := stumpff.Term(k, p, n); got != bad {
			t.Errorf("%d, %d, %d: %v", k, p, n, got)
		}
	}
	for _, p := range []int{0, 1, one, -one, far, -far} {
		for _, k := range others() {
			for _, n := range append(places, 0, 1, 14) {
				check(k, p, n)
			}
		}
		for k := range 4 {
			for _, n := range places {
				check(k, p, n)
			}
		}
	}
	for _, p := range beyond() {
		for _, k := range append(others(), 0, 1, 2, 3) {
			for _, n := range append(places, 0, 1, 14) {
				check(k, p, n)
			}
		}
	}
}

// P8.1: factorials from 0 to 20, and none of others.
func TestFactorial(t *testing.T) {
	want := great(1)
	for n := range 21 {
		if n > 0 {
			want.Mul(want, great(n))
		}
		if f, ok := stumpff.Factorial(n); !ok || great(f).Cmp(want) != 0 {
			t.Errorf("%d: %d, %v, not %v", n, f, ok, want)
		}
	}
	if f, _ := stumpff.Factorial(20); f != 2432902008176640000 {
		t.Error(f)
	}
	for _, n := range []int{-1, -2, -20, 21, 22, 64, 66, 1 << 32, 1<<32 + 1, -1 << 32, math.MaxInt, math.MinInt} {
		if f, ok := stumpff.Factorial(n); f != 0 || ok {
			t.Errorf("%d: %d, %v", n, f, ok)
		}
	}
}

// P8.2: what is told of such intervals as have been worked out by hand: all but k of 3, which is a sixth.
func TestByHand(t *testing.T) {
	first := [4]api.Ival{ival.Of(1), ival.Of(1), ival.Point(one / 2), {Lo: 178956970, Hi: 178956971}}
	for _, c := range []struct{ lo, hi, below, above int }{
		{0, 0, 0, 0},
		// Of a bit, thirteen terms behind the first are up to a bit, by turns below 0 and above, and the rest is up to two.
		{1, 1, 7 + 2, 6 + 2},
		{0, 1, 7 + 2 + 4, 6 + 2 + 4},
		// Of a bit the other way, all of them are above 0.
		{-1, -1, 2, 13 + 2},
		{-1, 0, 2 + 4, 13 + 2 + 4},
		{-1, 1, 4, 4},
		{-2, 2, 8, 8},
		{-one, one, 4 * one, 4 * one},
		{-far, far, 64 * one, 64 * one},
	} {
		all := stumpff.All(api.Ival{Lo: c.lo, Hi: c.hi})
		for k, got := range all {
			if want := (api.Ival{Lo: first[k].Lo - c.below, Hi: first[k].Hi + c.above}); got != want {
				t.Errorf("%d of %v: %v, not %v", k, c, got, want)
			}
		}
	}
}

// P8.2: intervals of all points that the chapter names, and of all sizes, such as may be and such as may not, by great numbers.
func TestC(t *testing.T) {
	found := 0
	for _, a := range slices.Concat(intervals(), such()) {
		all := stumpff.All(a)
		for k := range 4 {
			want := of(k, a)
			if got := stumpff.C(k, a); got != want || all[k] != want {
				t.Errorf("%d of %v: %v, and %v, not %v", k, a, got, all[k], want)
			}
		}
		if is(all[0]) {
			found++
		}
	}
	if found < 1500 {
		t.Errorf("too few of them may be: %d", found)
	}
}

// P8.2: the bad one, of series that there are not, and a bit beyond 16 One at either end.
func TestCOfNone(t *testing.T) {
	for _, a := range slices.Concat(such(), []api.Ival{
		{Lo: far, Hi: far + 1}, {Lo: -far - 1, Hi: -far}, {Lo: -far - 1, Hi: far}, {Lo: -far, Hi: far + 1}, {Lo: far + 1, Hi: far + 1}, {Lo: -far - 1, Hi: -far - 1},
		{Lo: -far - 1, Hi: far + 1}, {Lo: 0, Hi: far + 1}, {Lo: -far - 1, Hi: 0}, {Lo: -most, Hi: most}, {Lo: most, Hi: most}, {Lo: -most, Hi: -most}, {Lo: 1 << 36, Hi: 1 << 36},
		{Lo: 0, Hi: 0, Bad: true}, {Lo: -far, Hi: far, Bad: true},
	}) {
		if all := stumpff.All(a); all != [4]api.Ival{bad, bad, bad, bad} {
			t.Errorf("%v: %v", a, all)
		}
		for _, k := range append(others(), 0, 1, 2, 3) {
			if got := stumpff.C(k, a); got != bad {
				t.Errorf("%d of %v: %v", k, a, got)
			}
		}
	}
	for _, a := range []api.Ival{{}, {Lo: far, Hi: far}, {Lo: -far, Hi: -far}, {Lo: -far, Hi: far}, {Lo: far - 1, Hi: far}, {Lo: -far, Hi: 1 - far}} {
		for k, c := range stumpff.All(a) {
			if !is(c) {
				t.Errorf("%d of %v: %v", k, a, c)
			}
		}
		for _, k := range others() {
			if got := stumpff.C(k, a); got != bad {
				t.Errorf("%d of %v: %v", k, a, got)
			}
		}
	}
}

// P8.3: the real series of each number are held.
func TestRealOnesAreHeld(t *testing.T) {
	check := func(a api.Ival, p int) {
		for k, c := range stumpff.All(a) {
			if !holds(c, real(k, p)) {
				t.Errorf("%d at %d of %v: %v", k, p, a, c)
			}
		}
	}
	for _, p := range points() {
		check(ival.Point(p), p)
	}
	seed := chance(7)
	for range 3000 {
		a := seed.around(far)
		check(a, seed.number(a))
		check(ival.Point(a.Lo), a.Lo)
	}
	// No series is steeper than that of 0 about -16.
	for _, by := range []int{1, 2, 1000, one / 2, one, 2 * one, 16 * one, 32 * one} {
		check(api.Ival{Lo: -far, Hi: by - far}, -far)
		check(api.Ival{Lo: -far, Hi: by - far}, by-far)
	}
}

// P8.3: the example: C of 0 at 0 holds One; values of the four that come of well-known ones.
func TestKnown(t *testing.T) {
	if c := stumpff.C(0, ival.Point(0)); !ival.Holds(c, ival.Of(1)) {
		t.Error(c)
	}
	// Above 0: cosine and sine of the root of x; below 0: those of the hyperbola.
	for _, x := range []float64{1, 2.25, 4, 9, 16, -1, -2.25, -4, -9, -16} {
		r := math.Sqrt(math.Abs(x))
		c, s := math.Cos(r), math.Sin(r)/r
		if x < 0 {
			c, s = math.Cosh(r), math.Sinh(r)/r
		}
		all := stumpff.All(ival.Point(int(x * one)))
		for k, want := range [4]float64{c, s, (1 - c) / x, (1 - s) / x} {
			near := int(want * one)
			if !ival.Holds(ival.Make(near-512, near+512), all[k]) || ival.Meet(all[k], ival.Make(near-2, near+2)).Bad {
				t.Errorf("%d at %v: %v, not about %d", k, x, all[k], near)
			}
		}
	}
}

// P8.3: c_0 and x c_2 together hold 1, c_1 and x c_3 too.
func TestTogether(t *testing.T) {
	found := 0
	for _, a := range intervals() {
		c := stumpff.All(a)
		if !is(c[0]) {
			continue
		}
		found++
		for k := range 2 {
			if s := ival.Add(c[k], ival.Mul(a, c[k+2])); !ival.Holds(s, ival.Of(1)) {
				t.Errorf("%d of %v: %v", k, a, s)
			}
		}
	}
	if found < 1500 {
		t.Errorf("too few of them may be: %d", found)
	}
}

// P8.3: c_0 of a square meets the cosine, c_1 of it times the number the sine.
func TestWaves(t *testing.T) {
	seed := chance(9)
	for range 2000 {
		a := seed.around(4 * one)
		for _, square := range []api.Ival{ival.Mul(a, a), inv.Square(a)} {
			sin, cos := wave.Both(a)
			if c := stumpff.C(0, square); !is(ival.Meet(c, cos)) {
				t.Errorf("%v: %v and %v", a, c, cos)
			}
			if s := ival.Mul(a, stumpff.C(1, square)); !is(ival.Meet(s, sin)) {
				t.Errorf("%v: %v and %v", a, s, sin)
			}
		}
	}
}

// P8.3: c_0 of 4 x meets twice c_0's square, less 1.
func TestFourTimes(t *testing.T) {
	seed := chance(11)
	for range 2000 {
		a := seed.around(4 * one)
		c := stumpff.C(0, a)
		twice := ival.Sub(ival.Mul(ival.Of(2), ival.Mul(c, c)), ival.Of(1))
		if got := stumpff.C(0, ival.Part(a, 4, 1)); !is(ival.Meet(got, twice)) {
			t.Errorf("%v: %v and %v", a, got, twice)
		}
	}
}

// R3: no call hangs on what was called before.
func TestNothingIsKept(t *testing.T) {
	l := slices.Concat(such(), []api.Ival{{}, {Lo: far, Hi: far}})
	seed := chance(13)
	for range 60 {
		l = append(l, seed.around(far))
	}
	all := func(a api.Ival) [6]api.Ival {
		c := stumpff.All(a)
		return [6]api.Ival{c[0], c[1], c[2], c[3], stumpff.C(2, a), stumpff.Term(3, a.Lo, 3)}
	}
	var first [][6]api.Ival
	for _, a := range l {
		first = append(first, all(a))
	}
	for i := len(l) - 1; i >= 0; i-- {
		if again := all(l[i]); again != first[i] {
			t.Errorf("%v: %v, then %v", l[i], first[i], again)
		}
	}
}
