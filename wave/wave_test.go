package wave_test

import (
	"math"
	"math/big"
	"slices"
	"testing"

	"gyre/api"
	"gyre/inv"
	"gyre/ival"
	"gyre/wave"
)

const (
	one  = api.One
	most = api.MaxIval
	far  = 4 * one
)

var bad = api.Ival{Bad: true}

// is tells by the document's own words whether an interval may be.
func is(a api.Ival) bool {
	return !a.Bad && -most <= a.Lo && a.Lo <= a.Hi && a.Hi <= most
}

func great(n int) *big.Int { return big.NewInt(int64(n)) }

// floor of n by d, which is above 0.
func floor(n, d *big.Int) *big.Int {
	return new(big.Int).Div(n, d)
}

// ceil of n by d, which is above 0.
func ceil(n, d *big.Int) *big.Int {
	q := floor(new(big.Int).Neg(n), d)
	return q.Neg(q)
}

// times is the least and the greatest product of two intervals' ends, by One, outward.
func times(a, b [2]*big.Int) [2]*big.Int {
	var l []*big.Int
	for _, x := range a {
		for _, y := range b {
			l = append(l, new(big.Int).Mul(x, y))
		}
	}
	return [2]*big.Int{floor(slices.MinFunc(l, (*big.Int).Cmp), great(one)), ceil(slices.MaxFunc(l, (*big.Int).Cmp), great(one))}
}

// series tells a point's terms by the chapter's own words, by great numbers.
func series(n int, cosine bool) [14][2]*big.Int {
	x := [2]*big.Int{great(n), great(n)}
	q := times(x, x)
	t := x
	if cosine {
		t = [2]*big.Int{great(one), great(one)}
	}
	var l [14][2]*big.Int
	for k := range l {
		l[k] = t
		d := great((2*k + 2) * (2*k + 3))
		if cosine {
			d = great((2*k + 1) * (2*k + 2))
		}
		p := times(t, q)
		t = [2]*big.Int{floor(new(big.Int).Neg(p[1]), d), ceil(new(big.Int).Neg(p[0]), d)}
	}
	return l
}

func told(a [2]*big.Int) api.Ival {
	return api.Ival{Lo: int(a[0].Int64()), Hi: int(a[1].Int64())}
}

// enclosure tells a point's enclosure by great numbers.
func enclosure(n int, cosine bool) api.Ival {
	l := series(n, cosine)
	lo, hi := great(0), great(0)
	for _, t := range l[:13] {
		lo.Add(lo, t[0])
		hi.Add(hi, t[1])
	}
	last := told(l[13])
	r := max(last.Lo, -last.Lo, last.Hi, -last.Hi)
	return api.Ival{Lo: max(int(lo.Int64())-r, -one), Hi: min(int(hi.Int64())+r, one)}
}

// half is the nearest of a by 2: of two the one farther from 0.
func half(a int) int {
	if a < 0 {
		return (a - 1) / 2
	}
	return (a + 1) / 2
}

// of tells what Sin and Cos do, by great numbers.
func of(a api.Ival, cosine bool) api.Ival {
	if !is(a) || a.Lo < -far || a.Hi > far {
		return bad
	}
	m := half(a.Lo + a.Hi)
	reach := max(a.Hi-m, m-a.Lo)
	e := enclosure(m, cosine)
	return api.Ival{Lo: max(e.Lo-reach, -one), Hi: min(e.Hi+reach, one)}
}

// fine is how many bits the real numbers below have behind those of fixed point.
const fine = 100

// real tells a real sine or cosine, times One and 2^fine, no farther off than 2^50.
func real(n int, cosine bool) *big.Int {
	unit := new(big.Int).Lsh(great(one), fine)
	x := new(big.Int).Lsh(great(n), fine)
	t, d := x, 2
	if cosine {
		t, d = unit, 1
	}
	sum := new(big.Int)
	for t.Sign() != 0 {
		sum.Add(sum, t)
		t = new(big.Int).Mul(t, x)
		t.Quo(t, unit).Mul(t, x).Quo(t, unit).Quo(t, great(-d*(d+1)))
		d += 2
	}
	return sum
}

// holds tells whether a real sine or cosine is between two ends; it may itself be a bit off.
func holds(a api.Ival, s *big.Int) bool {
	bit := new(big.Int).Lsh(great(1), 50)
	lo, hi := new(big.Int).Lsh(great(a.Lo), fine), new(big.Int).Lsh(great(a.Hi), fine)
	return is(a) && lo.Sub(lo, bit).Cmp(s) <= 0 && s.Cmp(hi.Add(hi, bit)) <= 0
}

// points are those that the chapter names, what stands beside them, and where sines turn about or go through 0.
func points() []int {
	var l []int
	for _, n := range []int{0, 1, 7, 1 << 10, 1 << 15, 1 << 20, one / 4, one / 2, one, 2 * one, 3 * one, far, 843314857, 1686629713, 2529944570, 3373259426} {
		for d := -2; d <= 2; d++ {
			if n+d <= far {
				l = append(l, n+d, -n-d)
			}
		}
	}
	return l
}

// beyond are numbers of which no series is told.
func beyond() []int {
	return []int{far + 1, -far - 1, far + 2, 5 * one, -5 * one, 1 << 45, -1 << 45, most, -most, most + 1, -most - 1, math.MaxInt, math.MinInt, math.MinInt + 1}
}

// such are some that may not be.
func such() []api.Ival {
	return []api.Ival{
		bad, {Lo: 1, Hi: 2, Bad: true}, {Lo: 2, Hi: 1}, {Lo: one, Hi: -one}, {Lo: 0, Hi: most + 1}, {Lo: -most - 1, Hi: 0}, {Lo: -most - 1, Hi: most + 1},
		{Lo: far, Hi: -far}, {Lo: math.MinInt, Hi: math.MaxInt}, {Lo: math.MaxInt, Hi: math.MinInt}, {Lo: math.MinInt, Hi: math.MinInt}, {Lo: math.MaxInt, Hi: math.MaxInt},
	}
}

// chance tells numbers by a rule that is the same each time.
type chance uint64

func (c *chance) next() uint64 {
	*c ^= *c << 13
	*c ^= *c >> 7
	*c ^= *c << 17
	return uint64(*c)
}

// point is of any size, from -4 One to 4 One.
func (c *chance) point() int {
	n := int(c.next()%(far+1)) >> (c.next() % 40 / 8)
	if c.next()%8 == 0 {
		n >>= c.next() % 30
	}
	if c.next()%2 == 0 {
		return -n
	}
	return n
}

// angle is an interval of points; of two one is narrow.
func (c *chance) angle() api.Ival {
	a, b := c.point(), c.point()
	if c.next()%2 == 0 {
		b = min(a+int(c.next()%9), far)
	}
	return api.Ival{Lo: min(a, b), Hi: max(a, b)}
}

// number is one of a's: often one of its ends.
func (c *chance) number(a api.Ival) int {
	switch c.next() % 4 {
	case 0:
		return a.Lo
	case 1:
		return a.Hi
	}
	return a.Lo + int(c.next()%uint64(a.Hi-a.Lo+1))
}

// angles are those of all points with each other, such as are in order or not, and some of all sizes.
func angles() []api.Ival {
	var l []api.Ival
	some := []int{0, 1, -1, 2, one, -one, far - 1, far, 1 - far, -far, far + 1, -far - 1, most, -most}
	for _, lo := range slices.Concat(points(), beyond()) {
		l = append(l, api.Ival{Lo: lo, Hi: lo}, api.Ival{Lo: lo, Hi: lo + 1})
		for _, hi := range some {
			l = append(l, api.Ival{Lo: lo, Hi: hi}, api.Ival{Lo: hi, Hi: lo})
		}
	}
	seed := chance(3)
	for range 1000 {
		l = append(l, seed.angle())
	}
	return l
}

// P7.1: terms, told by hand.
func TestTermByHand(t *testing.T) {
	for _, c := range []struct {
		n, k   int
		cosine bool
		lo, hi int
	}{
		{0, 0, false, 0, 0},
		{0, 0, true, one, one},
		{0, 1, false, 0, 0},
		{0, 13, true, 0, 0},
		{7, 0, false, 7, 7},
		{7, 0, true, one, one},
		{far, 0, false, far, far},
		{-far, 0, false, -far, -far},
		{-far, 0, true, one, one},
		// 1 by 6, by 120, by 2, by 24, by 720: one outward from another.
		{one, 1, false, -178956971, -178956970},
		{one, 2, false, 8947848, 8947849},
		{one, 1, true, -one / 2, -one / 2},
		{one, 2, true, 44739242, 44739243},
		{one, 3, true, -1491309, -1491308},
		{-one, 1, false, 178956970, 178956971},
		{-one, 1, true, -one / 2, -one / 2},
		{2 * one, 1, true, -2 * one, -2 * one},
		{2 * one, 1, false, -1431655766, -1431655765},
		{far, 1, true, -8 * one, -8 * one},
		// The square of the least number is between 0 and the least number.
		{1, 0, false, 1, 1},
		{1, 1, false, -1, 0},
		{1, 2, false, 0, 1},
		{1, 1, true, -1, 0},
		{-1, 1, false, 0, 1},
		{-1, 1, true, -1, 0},
		{1, 13, false, -1, 0},
		{1, 13, true, -1, 0},
		{one, 13, true, -1, 0},
	} {
		if got, want := wave.Term(c.n, c.k, c.cosine), (api.Ival{Lo: c.lo, Hi: c.hi}); got != want {
			t.Errorf("%d, %d, %v: %v, not %v", c.n, c.k, c.cosine, got, want)
		}
	}
}

// P7.1: terms of all points that the chapter names, and of others, by great numbers.
func TestTerm(t *testing.T) {
	l := points()
	seed := chance(5)
	for range 300 {
		l = append(l, seed.point())
	}
	for _, n := range l {
		for _, cosine := range []bool{false, true} {
			for k, want := range series(n, cosine) {
				if got := wave.Term(n, k, cosine); got != told(want) {
					t.Errorf("%d, %d, %v: %v, not %v", n, k, cosine, got, want)
				}
			}
		}
	}
}

// P7.1: no term of a number beyond 4 One, and none but the first fourteen.
func TestTermOfNone(t *testing.T) {
	for _, cosine := range []bool{false, true} {
		for _, n := range beyond() {
			for _, k := range []int{0, 1, 13, 14, -1} {
				if got := wave.Term(n, k, cosine); got != bad {
					t.Errorf("%d, %d, %v: %v", n, k, cosine, got)
				}
			}
		}
		for _, k := range []int{-1, 14, 15, -13, 27, 1 << 32, 1<<32 + 1, math.MaxInt, math.MinInt} {
			for _, n := range []int{0, 1, one, -one, far, -far} {
				if got := wave.Term(n, k, cosine); got != bad {
					t.Errorf("%d, %d, %v: %v", n, k, cosine, got)
				}
			}
		}
	}
}

// P7.1: the middle is the nearest of both ends together by 2, of two the one farther from 0.
func TestMiddleByHand(t *testing.T) {
	for _, c := range []struct{ lo, hi, m, reach int }{
		{0, 0, 0, 0},
		{5, 5, 5, 0},
		{-5, -5, -5, 0},
		{0, 1, 1, 1},
		{-1, 0, -1, 1},
		{1, 2, 2, 1},
		{-2, -1, -2, 1},
		{1, 3, 2, 1},
		{-3, -1, -2, 1},
		{-1, 1, 0, 1},
		{-1, 2, 1, 2},
		{-2, 1, -1, 2},
		{-2, 3, 1, 3},
		{-3, 2, -1, 3},
		{-4, 6, 1, 5},
		{2, 7, 5, 3},
		{-7, -2, -5, 3},
		{-one, one, 0, one},
		{-far, far, 0, far},
		{0, far, far / 2, far / 2},
		{far, far, far, 0},
		{most, most, most, 0},
		{-most, -most, -most, 0},
		{-most, most, 0, most},
		{most - 1, most, most, 1},
		{-most, 1 - most, -most, 1},
		{0, most, most / 2, most / 2},
		{-most, most - 1, -1, most},
		{1 - most, most, 1, most},
	} {
		if m, reach, ok := wave.Middle(api.Ival{Lo: c.lo, Hi: c.hi}); m != c.m || reach != c.reach || !ok {
			t.Errorf("%v: %d, %d, %v", c, m, reach, ok)
		}
	}
	for _, a := range slices.Concat(such(), []api.Ival{{Lo: most + 1, Hi: most + 1}, {Lo: -most - 1, Hi: -most - 1}, {Bad: true, Lo: one, Hi: one}, {Lo: 1, Hi: 0}}) {
		if m, reach, ok := wave.Middle(a); m != 0 || reach != 0 || ok {
			t.Errorf("%v: %d, %d, %v", a, m, reach, ok)
		}
	}
}

// P7.1: middles of all sizes.
func TestMiddle(t *testing.T) {
	for _, a := range angles() {
		m, reach, ok := wave.Middle(a)
		if ok != is(a) || !ok && (m != 0 || reach != 0) {
			t.Errorf("%v: %d, %d, %v", a, m, reach, ok)
		}
		if want := half(a.Lo + a.Hi); ok && (m != want || reach != max(a.Hi-want, want-a.Lo)) {
			t.Errorf("%v: %d, %d, not %d", a, m, reach, want)
		}
	}
}

// P7.2: what is told of such intervals as have been worked out by hand.
func TestByHand(t *testing.T) {
	for _, c := range []struct{ lo, hi, sinLo, sinHi, cosLo, cosHi int }{
		{0, 0, 0, 0, one, one},
		// Of a bit, twelve terms behind the first are up to a bit, by turns below 0 and above, and so is the rest.
		{1, 1, 1 - 6 - 1, 1 + 6 + 1, one - 6 - 1, one},
		{-1, -1, -1 - 6 - 1, -1 + 6 + 1, one - 6 - 1, one},
		{0, 1, 1 - 7 - 1, 1 + 7 + 1, one - 7 - 1, one},
		{-1, 0, -1 - 7 - 1, -1 + 7 + 1, one - 7 - 1, one},
		{-1, 1, -1, 1, one - 1, one},
		{-2, 2, -2, 2, one - 2, one},
		{-one / 2, one / 2, -one / 2, one / 2, one / 2, one},
		{-one, one, -one, one, 0, one},
		{-one - 1, one + 1, -one, one, -1, one},
		{-2 * one, 2 * one, -one, one, -one, one},
		{-far, far, -one, one, -one, one},
		{0, far, -one, one, -one, one},
		{-far, 0, -one, one, -one, one},
	} {
		sin, cos := wave.Both(api.Ival{Lo: c.lo, Hi: c.hi})
		if sin != (api.Ival{Lo: c.sinLo, Hi: c.sinHi}) || cos != (api.Ival{Lo: c.cosLo, Hi: c.cosHi}) {
			t.Errorf("%v: %v, %v", c, sin, cos)
		}
	}
}

// P7.2: intervals of all points that the chapter names, and of all sizes, such as may be and such as may not, by great numbers.
func TestSinAndCos(t *testing.T) {
	fine := 0
	for _, a := range slices.Concat(angles(), such()) {
		sin, cos := of(a, false), of(a, true)
		if got := wave.Sin(a); got != sin {
			t.Errorf("the sine of %v: %v, not %v", a, got, sin)
		}
		if got := wave.Cos(a); got != cos {
			t.Errorf("the cosine of %v: %v, not %v", a, got, cos)
		}
		if s, c := wave.Both(a); s != sin || c != cos {
			t.Errorf("both of %v: %v, %v, not %v, %v", a, s, c, sin, cos)
		}
		if is(sin) {
			fine++
		}
	}
	if fine < 1500 {
		t.Errorf("too few of them may be: %d", fine)
	}
}

// P7.2: the bad one, a bit beyond 4 One at either end.
func TestBeyond(t *testing.T) {
	for _, a := range slices.Concat(such(), []api.Ival{
		{Lo: far, Hi: far + 1}, {Lo: -far - 1, Hi: -far}, {Lo: -far - 1, Hi: far}, {Lo: -far, Hi: far + 1}, {Lo: far + 1, Hi: far + 1}, {Lo: -far - 1, Hi: -far - 1},
		{Lo: -far - 1, Hi: far + 1}, {Lo: 0, Hi: far + 1}, {Lo: -far - 1, Hi: 0}, {Lo: -most, Hi: most}, {Lo: most, Hi: most}, {Lo: -most, Hi: -most}, {Lo: 1 << 34, Hi: 1 << 34},
		{Lo: 0, Hi: 0, Bad: true}, {Lo: -far, Hi: far, Bad: true},
	}) {
		s, c := wave.Both(a)
		if wave.Sin(a) != bad || wave.Cos(a) != bad || s != bad || c != bad {
			t.Errorf("%v: %v, %v, %v, %v", a, wave.Sin(a), wave.Cos(a), s, c)
		}
	}
	for _, a := range []api.Ival{{Lo: far, Hi: far}, {Lo: -far, Hi: -far}, {Lo: -far, Hi: far}, {Lo: far - 1, Hi: far}, {Lo: -far, Hi: 1 - far}} {
		if s, c := wave.Both(a); !is(s) || !is(c) {
			t.Errorf("%v: %v, %v", a, s, c)
		}
	}
}

// P7.3: the real sine and cosine of each number are held.
func TestRealOnesAreHeld(t *testing.T) {
	var l [][2]api.Ival
	for _, n := range points() {
		l = append(l, [2]api.Ival{ival.Point(n), ival.Point(n)})
	}
	seed := chance(7)
	for range 3000 {
		a := seed.angle()
		l = append(l, [2]api.Ival{a, ival.Point(seed.number(a))}, [2]api.Ival{ival.Point(a.Lo), ival.Point(a.Lo)})
	}
	for _, c := range l {
		a, n := c[0], c[1].Lo
		sin, cos := wave.Both(a)
		if !holds(sin, real(n, false)) || !holds(cos, real(n, true)) {
			t.Errorf("%d of %v: %v, %v", n, a, sin, cos)
		}
	}
}

// P7.3: the example: Cos of Point(0) holds One; sines and cosines that everybody knows.
func TestExample(t *testing.T) {
	if c := wave.Cos(ival.Point(0)); !ival.Holds(c, ival.Of(1)) {
		t.Error(c)
	}
	// The numbers nearest to a half of a right angle, to one, to one and a half, to two, and to one the other way.
	for _, c := range []struct{ n, sin, cos int }{
		{843314857, 759250125, 759250125},
		{1686629713, one, 0},
		{2529944570, 759250125, -759250125},
		{3373259426, 0, -one},
		{-1686629713, -one, 0},
	} {
		near := ival.Make(-64, 64)
		sin, cos := wave.Both(ival.Point(c.n))
		if !ival.Holds(ival.Add(ival.Point(c.sin), near), sin) || !ival.Holds(ival.Add(ival.Point(c.cos), near), cos) {
			t.Errorf("%v: %v, %v", c, sin, cos)
		}
	}
}

// P7.3: of a point no enclosure is wider than 64.
func TestWidth(t *testing.T) {
	l := points()
	for n := -far; n <= far; n += one / 150 {
		l = append(l, n)
	}
	for _, n := range l {
		sin, cos := wave.Both(ival.Point(n))
		if w := ival.Width(sin); w < 0 || w > 64 {
			t.Errorf("%d: %v", n, sin)
		}
		if w := ival.Width(cos); w < 0 || w > 64 {
			t.Errorf("%d: %v", n, cos)
		}
	}
}

// P7.3: the squares of both together hold One.
func TestSquares(t *testing.T) {
	for _, a := range angles() {
		sin, cos := wave.Both(a)
		if !is(sin) {
			continue
		}
		if s := ival.Add(inv.Square(sin), inv.Square(cos)); !ival.Holds(s, ival.Of(1)) {
			t.Errorf("%v: %v", a, s)
		}
	}
}

// P7.3: the enclosure of a sum meets that of the two angles' products.
func TestSums(t *testing.T) {
	seed := chance(9)
	met := 0
	for range 1500 {
		a, b := seed.angle(), seed.angle()
		sin, cos := wave.Both(ival.Add(a, b))
		if !is(sin) {
			continue
		}
		met++
		sa, ca := wave.Both(a)
		sb, cb := wave.Both(b)
		s := ival.Add(ival.Mul(sa, cb), ival.Mul(ca, sb))
		c := ival.Sub(ival.Mul(ca, cb), ival.Mul(sa, sb))
		if !is(ival.Meet(sin, s)) || !is(ival.Meet(cos, c)) {
			t.Errorf("%v, %v: %v and %v, %v and %v", a, b, sin, s, cos, c)
		}
	}
	if met < 500 {
		t.Errorf("too few of them may be: %d", met)
	}
}

// P7.3: turned about, the sine is turned about, the cosine is the same.
func TestTurnedAbout(t *testing.T) {
	for _, a := range angles() {
		back := ival.Neg(a)
		if got, want := wave.Sin(back), ival.Neg(wave.Sin(a)); got != want {
			t.Errorf("the sine of %v: %v, not %v", back, got, want)
		}
		if got, want := wave.Cos(back), wave.Cos(a); got != want {
			t.Errorf("the cosine of %v: %v, not %v", back, got, want)
		}
	}
}

// R3: no call hangs on what was called before.
func TestNothingIsKept(t *testing.T) {
	l := slices.Concat(such(), []api.Ival{{}, {Lo: far, Hi: far}})
	seed := chance(11)
	for range 60 {
		l = append(l, seed.angle())
	}
	all := func(a api.Ival) [6]api.Ival {
		s, c := wave.Both(a)
		m, reach, _ := wave.Middle(a)
		return [6]api.Ival{wave.Sin(a), wave.Cos(a), s, c, {Lo: m, Hi: reach}, wave.Term(a.Lo, 3, true)}
	}
	var first [][6]api.Ival
	for _, a := range l {
		first = append(first, all(a))
	}
	for i := len(l) - 1; i >= 0; i-- {
		if again := all(l[i]); again != first[i] {
			t.Errorf("%v: %v, then %v", l[i], first[i], again)
		}
	}
}
