package ival_test

import (
	"math"
	"math/big"
	"slices"
	"testing"

	"gyre/api"
	"gyre/ival"
)

const (
	one  = api.One
	most = api.MaxIval
)

var bad = api.Ival{Bad: true}

// is tells by the chapter's own words whether an interval may be.
func is(a api.Ival) bool {
	return !a.Bad && -most <= a.Lo && a.Lo <= a.Hi && a.Hi <= most
}

// told is what is told of two ends: the bad one, if they are not in order, or beyond MaxIval.
func told(lo, hi *big.Int) api.Ival {
	limit := big.NewInt(most)
	if lo.Cmp(hi) > 0 || lo.CmpAbs(limit) > 0 || hi.CmpAbs(limit) > 0 {
		return bad
	}
	return api.Ival{Lo: int(lo.Int64()), Hi: int(hi.Int64())}
}

// floor of n by d, which is above 0.
func floor(n, d *big.Int) *big.Int {
	return new(big.Int).Div(n, d)
}

// ceil of n by d, which is above 0.
func ceil(n, d *big.Int) *big.Int {
	q := floor(new(big.Int).Neg(n), d)
	return q.Neg(q)
}

func great(n int) *big.Int { return big.NewInt(int64(n)) }

func times(l ...int) *big.Int {
	p := big.NewInt(1)
	for _, n := range l {
		p.Mul(p, great(n))
	}
	return p
}

// ends are what ends are made of: those that the document names, what stands beside them, and such as may not be.
func ends() []int {
	l := []int{0, math.MaxInt, math.MinInt, math.MinInt + 1, math.MaxInt / 2, math.MinInt / 2}
	for _, n := range []int{1, 3, 1 << 15, one, 3 * one, 1 << 31, 1 << 45, most, 2 * most} {
		for d := -1; d <= 1; d++ {
			l = append(l, n+d, -n-d)
		}
	}
	return l
}

// intervals are those of all ends, such as may be or not.
func intervals() []api.Ival {
	l := []api.Ival{bad, {Lo: 1, Hi: 2, Bad: true}, {Lo: 2, Hi: 1, Bad: true}, {Lo: most + 1, Hi: most + 1, Bad: true}}
	for _, lo := range ends() {
		for _, hi := range ends() {
			l = append(l, api.Ival{Lo: lo, Hi: hi})
		}
	}
	return l
}

// chance tells numbers by a rule that is the same each time.
type chance uint64

func (c *chance) next() uint64 {
	*c ^= *c << 13
	*c ^= *c >> 7
	*c ^= *c << 17
	return uint64(*c)
}

// end is of any size up to MaxIval.
func (c *chance) end() int {
	n := int(c.next() >> (4 + c.next()%60))
	if c.next()%2 == 0 {
		return -n
	}
	return n
}

// fine is an interval that may be.
func (c *chance) fine() api.Ival {
	a, b := c.end(), c.end()
	return api.Ival{Lo: min(a, b), Hi: max(a, b)}
}

// number is one of a's: often one of its ends.
func (c *chance) number(a api.Ival) int {
	switch c.next() % 4 {
	case 0:
		return a.Lo
	case 1:
		return a.Hi
	}
	return a.Lo + int(c.next()%uint64(a.Hi-a.Lo+1))
}

// part is a part of a.
func (c *chance) part(a api.Ival) api.Ival {
	x, y := c.number(a), c.number(a)
	return api.Ival{Lo: min(x, y), Hi: max(x, y)}
}

// drawn are intervals of all sizes.
func drawn(many int, seed chance) []api.Ival {
	var l []api.Ival
	for range many {
		l = append(l, seed.fine())
	}
	return l
}

// P5.1: which intervals may be, told by hand.
func TestFineByHand(t *testing.T) {
	for _, c := range []struct {
		a    api.Ival
		fine bool
	}{
		{api.Ival{}, true},
		{api.Ival{Lo: -1, Hi: 1}, true},
		{api.Ival{Lo: 5, Hi: 5}, true},
		{api.Ival{Lo: 1, Hi: 0}, false},
		{api.Ival{Lo: 1, Hi: -1}, false},
		{api.Ival{Lo: -most, Hi: most}, true},
		{api.Ival{Lo: most, Hi: most}, true},
		{api.Ival{Lo: -most, Hi: -most}, true},
		{api.Ival{Lo: -most - 1, Hi: most}, false},
		{api.Ival{Lo: -most, Hi: most + 1}, false},
		{api.Ival{Lo: most + 1, Hi: most + 1}, false},
		{api.Ival{Lo: -most - 1, Hi: -most - 1}, false},
		{api.Ival{Lo: math.MinInt, Hi: math.MaxInt}, false},
		{bad, false},
		{api.Ival{Lo: 1, Hi: 2, Bad: true}, false},
	} {
		if fine := ival.Fine(c.a); fine != c.fine {
			t.Errorf("%v: %v", c.a, fine)
		}
	}
}

// P5.1: of many all must be such; none is there that may not be, where there is none.
func TestFineOfMany(t *testing.T) {
	if !ival.Fine() || !ival.Fine([]api.Ival{}...) {
		t.Error("none")
	}
	good := api.Ival{Lo: -3, Hi: 7}
	for _, a := range intervals() {
		if fine := ival.Fine(a); fine != is(a) {
			t.Errorf("%v: %v", a, fine)
		}
		for _, l := range [][]api.Ival{{a, good}, {good, a}, {good, a, good}, {a, a}, {good, good, good, a}} {
			if fine := ival.Fine(l...); fine != is(a) {
				t.Errorf("%v: %v", l, fine)
			}
		}
	}
}

// P5.1: whole numbers, as far as MaxIval goes.
func TestOf(t *testing.T) {
	greatest := most / one
	for _, c := range []struct {
		n    int
		want api.Ival
	}{
		{0, api.Ival{}},
		{1, api.Ival{Lo: one, Hi: one}},
		{-1, api.Ival{Lo: -one, Hi: -one}},
		{7, api.Ival{Lo: 7 * one, Hi: 7 * one}},
		{greatest, api.Ival{Lo: most, Hi: most}},
		{-greatest, api.Ival{Lo: -most, Hi: -most}},
		{greatest - 1, api.Ival{Lo: most - one, Hi: most - one}},
		{greatest + 1, bad},
		{-greatest - 1, bad},
		{most, bad},
		{-most, bad},
		{most + 1, bad},
		// These times One go round to numbers that may be.
		{1 << 34, bad},
		{-1 << 34, bad},
		{1<<34 + 1, bad},
		{math.MaxInt, bad},
		{math.MinInt, bad},
		{math.MinInt + 1, bad},
	} {
		if a := ival.Of(c.n); a != c.want {
			t.Errorf("Of(%d) = %v", c.n, a)
		}
	}
	for _, n := range ends() {
		if a, want := ival.Of(n), told(times(n, one), times(n, one)); a != want {
			t.Errorf("Of(%d) = %v, not %v", n, a, want)
		}
	}
}

// P5.1: points and what lies between two numbers, in whichever order; nothing beyond MaxIval.
func TestPointAndMake(t *testing.T) {
	if a := ival.Make(5, -2); a != (api.Ival{Lo: -2, Hi: 5}) {
		t.Error(a)
	}
	if a := ival.Make(-2, 5); a != (api.Ival{Lo: -2, Hi: 5}) {
		t.Error(a)
	}
	if a := ival.Make(most, -most); a != (api.Ival{Lo: -most, Hi: most}) {
		t.Error(a)
	}
	if a := ival.Point(-9); a != (api.Ival{Lo: -9, Hi: -9}) {
		t.Error(a)
	}
	for _, a := range ends() {
		if got, want := ival.Point(a), told(great(a), great(a)); got != want {
			t.Errorf("Point(%d) = %v, not %v", a, got, want)
		}
		for _, b := range ends() {
			want := told(great(min(a, b)), great(max(a, b)))
			if got := ival.Make(a, b); got != want {
				t.Errorf("Make(%d, %d) = %v, not %v", a, b, got, want)
			}
		}
	}
}

// P5.1: how wide; nothing is as wide as -1.
func TestWidth(t *testing.T) {
	for _, c := range []struct {
		a    api.Ival
		want int
	}{
		{api.Ival{}, 0},
		{api.Ival{Lo: 4, Hi: 4}, 0},
		{api.Ival{Lo: -3, Hi: 4}, 7},
		{api.Ival{Lo: -most, Hi: most}, 2 * most},
		{api.Ival{Lo: 4, Hi: 3}, -1},
		{bad, -1},
		{api.Ival{Lo: -3, Hi: 4, Bad: true}, -1},
		{api.Ival{Lo: 0, Hi: most + 1}, -1},
		{api.Ival{Lo: math.MinInt, Hi: math.MaxInt}, -1},
	} {
		if w := ival.Width(c.a); w != c.want {
			t.Errorf("%v: %d", c.a, w)
		}
	}
	for _, a := range intervals() {
		want := -1
		if is(a) {
			want = a.Hi - a.Lo
		}
		if w := ival.Width(a); w != want {
			t.Errorf("%v: %d", a, w)
		}
	}
}

// ofTwo holds what a call tells of two intervals against ends that are told by great numbers.
func ofTwo(t *testing.T, name string, call func(a, b api.Ival) api.Ival, ends func(a, b api.Ival) (lo, hi *big.Int), a, b api.Ival) {
	want := bad
	if is(a) && is(b) {
		want = told(ends(a, b))
	}
	if got := call(a, b); got != want {
		t.Errorf("%s(%v, %v) = %v, not %v", name, a, b, got, want)
	}
}

func sums(a, b api.Ival) (lo, hi *big.Int) {
	return new(big.Int).Add(great(a.Lo), great(b.Lo)), new(big.Int).Add(great(a.Hi), great(b.Hi))
}

func differences(a, b api.Ival) (lo, hi *big.Int) {
	return new(big.Int).Sub(great(a.Lo), great(b.Hi)), new(big.Int).Sub(great(a.Hi), great(b.Lo))
}

func products(a, b api.Ival) (lo, hi *big.Int) {
	l := []*big.Int{times(a.Lo, b.Lo), times(a.Lo, b.Hi), times(a.Hi, b.Lo), times(a.Hi, b.Hi)}
	slices.SortFunc(l, (*big.Int).Cmp)
	return floor(l[0], great(one)), ceil(l[3], great(one))
}

func common(a, b api.Ival) (lo, hi *big.Int) {
	return great(max(a.Lo, b.Lo)), great(min(a.Hi, b.Hi))
}

// P5.2, P5.3, P5.4: sums, differences, products and meets of two, told by hand.
func TestTwoByHand(t *testing.T) {
	a, b := api.Ival{Lo: -1, Hi: 2}, api.Ival{Lo: 10, Hi: 30}
	for _, c := range []struct {
		name      string
		got, want api.Ival
	}{
		{"sum", ival.Add(a, b), api.Ival{Lo: 9, Hi: 32}},
		{"difference", ival.Sub(a, b), api.Ival{Lo: -31, Hi: -8}},
		{"other difference", ival.Sub(b, a), api.Ival{Lo: 8, Hi: 31}},
		{"of one and itself", ival.Sub(a, a), api.Ival{Lo: -3, Hi: 3}},
		{"turned about", ival.Neg(a), api.Ival{Lo: -2, Hi: 1}},
		{"the example", ival.Mul(ival.Make(-one, 2*one), ival.Of(3)), ival.Make(-3*one, 6*one)},
		{"both below 0", ival.Mul(ival.Make(-3*one, -2*one), ival.Make(-5*one, -one)), ival.Make(2*one, 15*one)},
		{"both about 0", ival.Mul(ival.Make(-3*one, 2*one), ival.Make(-5*one, 7*one)), ival.Make(-21*one, 15*one)},
		{"itself, about 0", ival.Mul(ival.Make(-one, one), ival.Make(-one, one)), ival.Make(-one, one)},
		{"by nought", ival.Mul(ival.Make(-3*one, 2*one), ival.Point(0)), ival.Point(0)},
		{"outward from above 0", ival.Mul(ival.Point(1), ival.Point(1)), api.Ival{Lo: 0, Hi: 1}},
		{"outward from below 0", ival.Mul(ival.Point(-1), ival.Point(1)), api.Ival{Lo: -1, Hi: 0}},
		{"outward at both ends", ival.Mul(api.Ival{Lo: -1, Hi: 1}, ival.Point(3)), api.Ival{Lo: -1, Hi: 1}},
		{"just whole", ival.Mul(ival.Point(one+1), ival.Of(5)), ival.Point(5*one + 5)},
		{"a bit above", ival.Mul(ival.Point(one+1), ival.Point(one+1)), api.Ival{Lo: one + 2, Hi: one + 3}},
		{"meet", ival.Meet(api.Ival{Lo: -1, Hi: 20}, b), api.Ival{Lo: 10, Hi: 20}},
		{"meet in a point", ival.Meet(api.Ival{Lo: 30, Hi: 31}, b), api.Ival{Lo: 30, Hi: 30}},
		{"meet one within", ival.Meet(api.Ival{Lo: 11, Hi: 12}, b), api.Ival{Lo: 11, Hi: 12}},
		{"meet nowhere, below", ival.Meet(a, b), bad},
		{"meet nowhere, above", ival.Meet(api.Ival{Lo: 31, Hi: 40}, b), bad},
	} {
		if c.got != c.want {
			t.Errorf("%s: %v, not %v", c.name, c.got, c.want)
		}
	}
}

// P5.2, P5.3, P5.4: all intervals of the ends that the document names, with some others, such as may be and such as may not.
func TestTwoAtTheEnds(t *testing.T) {
	others := slices.Concat(drawn(12, 3), []api.Ival{bad, {Lo: -5, Hi: 9, Bad: true}, {Lo: 2, Hi: 1}, {Hi: most + 1}, {Lo: -most - 1}, {Lo: -most, Hi: most}, {Lo: most, Hi: most}, {Lo: -most, Hi: -most}, {}, {Lo: 1, Hi: 1}, {Lo: -1, Hi: -1}, {Lo: -1, Hi: 1}, {Lo: one, Hi: one}, {Lo: -one, Hi: -one}, {Lo: one - 1, Hi: one + 1}})
	for _, a := range intervals() {
		for _, b := range others {
			for _, p := range [][2]api.Ival{{a, b}, {b, a}} {
				ofTwo(t, "Add", ival.Add, sums, p[0], p[1])
				ofTwo(t, "Sub", ival.Sub, differences, p[0], p[1])
				ofTwo(t, "Mul", ival.Mul, products, p[0], p[1])
				ofTwo(t, "Meet", ival.Meet, common, p[0], p[1])
			}
		}
	}
}

// P5.2, P5.3, P5.4: intervals of all sizes.
func TestTwoOfAllSizes(t *testing.T) {
	l := drawn(120, 5)
	for _, a := range l {
		for _, b := range l {
			ofTwo(t, "Add", ival.Add, sums, a, b)
			ofTwo(t, "Sub", ival.Sub, differences, a, b)
			ofTwo(t, "Mul", ival.Mul, products, a, b)
			ofTwo(t, "Meet", ival.Meet, common, a, b)
		}
	}
}

// P5.2: MaxIval itself may be come to, one beyond it may not, either way.
func TestSumsAtTheLimit(t *testing.T) {
	top, low := ival.Point(most-1), ival.Point(1-most)
	for _, c := range []struct{ got, want api.Ival }{
		{ival.Add(top, ival.Point(1)), ival.Point(most)},
		{ival.Add(top, ival.Point(2)), bad},
		{ival.Add(ival.Make(0, most-1), ival.Make(0, 2)), bad},
		{ival.Add(low, ival.Point(-1)), ival.Point(-most)},
		{ival.Add(low, ival.Point(-2)), bad},
		{ival.Sub(low, ival.Point(1)), ival.Point(-most)},
		{ival.Sub(low, ival.Point(2)), bad},
		{ival.Sub(ival.Make(1-most, 0), ival.Make(0, 2)), bad},
		{ival.Sub(top, ival.Point(-1)), ival.Point(most)},
		{ival.Sub(top, ival.Point(-2)), bad},
		{ival.Sub(ival.Make(-most, most), ival.Point(0)), ival.Make(-most, most)},
	} {
		if c.got != c.want {
			t.Errorf("%v, not %v", c.got, c.want)
		}
	}
}

// P5.2: turned about the ends are in order again; of what may not be the bad one is told.
func TestNeg(t *testing.T) {
	for _, a := range slices.Concat(intervals(), drawn(100, 7)) {
		want := bad
		if is(a) {
			want = api.Ival{Lo: -a.Hi, Hi: -a.Lo}
		}
		if got := ival.Neg(a); got != want {
			t.Errorf("Neg(%v) = %v", a, got)
		}
		if is(a) && ival.Neg(ival.Neg(a)) != a {
			t.Errorf("%v is not as it was", a)
		}
	}
}

// P5.3: products at MaxIval: one bit outward of it is beyond.
func TestProductsAtTheLimit(t *testing.T) {
	for _, c := range []struct{ a, b, want api.Ival }{
		{ival.Point(most), ival.Of(1), ival.Point(most)},
		{ival.Point(most), ival.Of(-1), ival.Point(-most)},
		{ival.Make(-most, most), ival.Make(-one, one), ival.Make(-most, most)},
		{ival.Point(most), ival.Point(one + 1), bad},
		{ival.Point(most), ival.Point(-one - 1), bad},
		{ival.Point(most), ival.Make(0, one+1), bad},
		{ival.Point(most), ival.Make(-one-1, 0), bad},
		{ival.Point(1 << 45), ival.Point(1 << 45), ival.Point(most)},
		{ival.Point(1 << 45), ival.Point(1<<45 + 1), bad},
		{ival.Point(most - 1), ival.Point(one + 1), bad},
		{ival.Point(most), ival.Point(most), bad},
		{ival.Point(-most), ival.Point(-most), bad},
		{ival.Point(-most), ival.Point(most), bad},
		{ival.Make(-most, most), ival.Make(-most, most), bad},
	} {
		for _, got := range []api.Ival{ival.Mul(c.a, c.b), ival.Mul(c.b, c.a)} {
			if got != c.want {
				t.Errorf("%v by %v: %v, not %v", c.a, c.b, got, c.want)
			}
		}
	}
}

// share tells a times n by d, by great numbers.
func share(a api.Ival, n, d int) api.Ival {
	if !is(a) || d == 0 {
		return bad
	}
	sign := 1
	if d < 0 {
		sign = -1
	}
	l := []*big.Int{times(a.Lo, n, sign), times(a.Hi, n, sign)}
	slices.SortFunc(l, (*big.Int).Cmp)
	by := new(big.Int).Abs(great(d))
	return told(floor(l[0], by), ceil(l[1], by))
}

// P5.3: parts, told by hand.
func TestPartByHand(t *testing.T) {
	a := api.Ival{Lo: -7, Hi: 9}
	for _, c := range []struct {
		a    api.Ival
		n, d int
		want api.Ival
	}{
		{a, 1, 1, a},
		{a, 1, 2, api.Ival{Lo: -4, Hi: 5}},
		{a, -1, 2, api.Ival{Lo: -5, Hi: 4}},
		{a, 1, -2, api.Ival{Lo: -5, Hi: 4}},
		{a, -1, -2, api.Ival{Lo: -4, Hi: 5}},
		{a, 2, 3, api.Ival{Lo: -5, Hi: 6}},
		{a, 0, 5, api.Ival{}},
		{a, 0, -5, api.Ival{}},
		{a, 1, 0, bad},
		{a, 0, 0, bad},
		{a, math.MaxInt, math.MaxInt, a},
		{a, math.MinInt, math.MinInt, a},
		{a, math.MinInt, math.MaxInt, api.Ival{Lo: -10, Hi: 8}},
		{a, math.MaxInt, math.MinInt, api.Ival{Lo: -9, Hi: 7}},
		{a, 1, math.MinInt, api.Ival{Lo: -1, Hi: 1}},
		{a, 1, math.MaxInt, api.Ival{Lo: -1, Hi: 1}},
		{a, math.MinInt, 1, bad},
		{a, math.MaxInt, -1, bad},
		{api.Ival{Lo: 7, Hi: 9}, 1, 2, api.Ival{Lo: 3, Hi: 5}},
		{api.Ival{Lo: 7, Hi: 7}, 1, 2, api.Ival{Lo: 3, Hi: 4}},
		{api.Ival{Lo: -9, Hi: -7}, 1, 2, api.Ival{Lo: -5, Hi: -3}},
		{api.Ival{Lo: 6, Hi: 6}, 1, 2, api.Ival{Lo: 3, Hi: 3}},
		{api.Ival{}, math.MinInt, -1, api.Ival{}},
		{api.Ival{Lo: 1, Hi: 1}, most, 1, ival.Point(most)},
		{api.Ival{Lo: 1, Hi: 1}, most + 1, 1, bad},
		{api.Ival{Lo: 1, Hi: 1}, -most, 1, ival.Point(-most)},
		{api.Ival{Lo: 1, Hi: 1}, -most - 1, 1, bad},
		{ival.Point(most), 3, 3, ival.Point(most)},
		{ival.Point(most), most + 1, most, bad},
		{ival.Make(-most, most), -1, 1, ival.Make(-most, most)},
		{bad, 1, 1, bad},
		{bad, 1, 0, bad},
		{bad, 0, 1, bad},
		{bad, 0, -1, bad},
		{api.Ival{Lo: 1, Hi: 2, Bad: true}, 1, 1, bad},
		{api.Ival{Lo: 1, Hi: 2, Bad: true}, 1, -1, bad},
		{api.Ival{Lo: 2, Hi: 1}, 1, 1, bad},
		{api.Ival{Lo: 2, Hi: 1}, -1, 1, bad},
		{api.Ival{Lo: 2, Hi: 1}, 1, -1, bad},
		{api.Ival{Hi: most + 1}, 1, 2, bad},
		{api.Ival{Lo: math.MinInt, Hi: math.MinInt}, 0, 1, bad},
	} {
		if got := ival.Part(c.a, c.n, c.d); got != c.want {
			t.Errorf("Part(%v, %d, %d) = %v, not %v", c.a, c.n, c.d, got, c.want)
		}
	}
}

// P5.3: parts of all sizes, and of what may not be.
func TestPart(t *testing.T) {
	seed := chance(11)
	for _, a := range slices.Concat(drawn(60, 13), []api.Ival{bad, {Lo: 2, Hi: 1}, {Hi: most + 1}, {Lo: -most, Hi: most}, {Lo: most, Hi: most}, {}, {Lo: -1, Hi: 1}}) {
		for _, n := range append(ends(), seed.end(), seed.end()) {
			for _, d := range append(ends(), seed.end(), seed.end()) {
				if got, want := ival.Part(a, n, d), share(a, n, d); got != want {
					t.Errorf("Part(%v, %d, %d) = %v, not %v", a, n, d, got, want)
				}
			}
		}
	}
}

// P5.4: hulls, told by hand; of none, and with one that may not be, wherever it stands, the bad one.
func TestHullByHand(t *testing.T) {
	a, b, c := api.Ival{Lo: -3, Hi: -1}, api.Ival{Lo: 4, Hi: 9}, api.Ival{Lo: 0, Hi: 5}
	for _, h := range []struct {
		l    []api.Ival
		want api.Ival
	}{
		{nil, bad},
		{[]api.Ival{}, bad},
		{[]api.Ival{a}, a},
		{[]api.Ival{b}, b},
		{[]api.Ival{{}}, api.Ival{}},
		{[]api.Ival{a, b}, api.Ival{Lo: -3, Hi: 9}},
		{[]api.Ival{b, a}, api.Ival{Lo: -3, Hi: 9}},
		{[]api.Ival{b, c, a}, api.Ival{Lo: -3, Hi: 9}},
		{[]api.Ival{c, b}, api.Ival{Lo: 0, Hi: 9}},
		{[]api.Ival{c, a, c}, api.Ival{Lo: -3, Hi: 5}},
		{[]api.Ival{{Lo: -most, Hi: -most}, {Lo: most, Hi: most}}, api.Ival{Lo: -most, Hi: most}},
		{[]api.Ival{bad}, bad},
		{[]api.Ival{bad, a}, bad},
		{[]api.Ival{a, bad}, bad},
		{[]api.Ival{a, bad, b}, bad},
		{[]api.Ival{a, {Lo: 1, Hi: 2, Bad: true}}, bad},
		{[]api.Ival{a, {Lo: 2, Hi: 1}, b}, bad},
		{[]api.Ival{a, b, {Hi: most + 1}}, bad},
		{[]api.Ival{{Lo: -most - 1}, a, b}, bad},
	} {
		if got := ival.Hull(h.l...); got != h.want {
			t.Errorf("Hull(%v) = %v", h.l, got)
		}
	}
}

// P5.4: a hull holds each of its intervals, and has its ends of some of them.
func TestHull(t *testing.T) {
	seed := chance(17)
	for many := 1; many < 40; many++ {
		l := drawn(many, seed)
		seed.next()
		hull := ival.Hull(l...)
		var low, high bool
		for _, a := range l {
			low, high = low || a.Lo == hull.Lo, high || a.Hi == hull.Hi
			if hull.Lo > a.Lo || hull.Hi < a.Hi || !ival.Holds(hull, a) {
				t.Errorf("%v does not hold %v", hull, a)
			}
		}
		if !low || !high || hull.Bad {
			t.Errorf("%v of %v", hull, l)
		}
	}
	for _, a := range intervals() {
		want := bad
		if is(a) {
			want = a
		}
		if got := ival.Hull(a); got != want {
			t.Errorf("Hull(%v) = %v", a, got)
		}
	}
}

// P5.4: what holds what: itself, too; nothing that may not be holds or is held.
func TestHolds(t *testing.T) {
	a := api.Ival{Lo: -5, Hi: 8}
	for _, c := range []struct {
		a, b api.Ival
		want bool
	}{
		{a, a, true},
		{a, api.Ival{Lo: -5, Hi: -5}, true},
		{a, api.Ival{Lo: 8, Hi: 8}, true},
		{a, api.Ival{}, true},
		{a, api.Ival{Lo: -6, Hi: 8}, false},
		{a, api.Ival{Lo: -5, Hi: 9}, false},
		{a, api.Ival{Lo: -6, Hi: 9}, false},
		{a, api.Ival{Lo: 9, Hi: 9}, false},
		{a, api.Ival{Lo: -9, Hi: -6}, false},
		{a, bad, false},
		{bad, a, false},
		{bad, bad, false},
		{a, api.Ival{Lo: 0, Hi: 1, Bad: true}, false},
		{api.Ival{Lo: -9, Hi: 9, Bad: true}, a, false},
		{a, api.Ival{Lo: 2, Hi: 1}, false},
		{api.Ival{Lo: -most, Hi: most}, a, true},
		{api.Ival{Lo: -most - 1, Hi: most}, a, false},
		{api.Ival{Lo: math.MinInt, Hi: math.MaxInt}, a, false},
	} {
		if got := ival.Holds(c.a, c.b); got != c.want {
			t.Errorf("Holds(%v, %v) = %v", c.a, c.b, got)
		}
	}
	for _, a := range intervals() {
		for _, b := range drawn(20, 19) {
			for _, p := range [][2]api.Ival{{a, b}, {b, a}} {
				want := is(p[0]) && is(p[1]) && p[0].Lo <= p[1].Lo && p[1].Hi <= p[0].Hi
				if got := ival.Holds(p[0], p[1]); got != want {
					t.Errorf("Holds(%v, %v) = %v", p[0], p[1], got)
				}
			}
		}
	}
}

// P5.5: numbers of a and b, added, subtracted, times each other, and by parts, are held, by whole numbers alone.
func TestNumbersAreHeld(t *testing.T) {
	seed := chance(23)
	between := func(a api.Ival, n, d *big.Int) bool {
		lo, hi := great(a.Lo), great(a.Hi)
		return lo.Mul(lo, d).Cmp(n) <= 0 && hi.Mul(hi, d).Cmp(n) >= 0
	}
	for range 20000 {
		a, b := seed.fine(), seed.fine()
		x, y := seed.number(a), seed.number(b)
		n, d := seed.end(), seed.end()
		if s := ival.Add(a, b); !s.Bad && (x+y < s.Lo || x+y > s.Hi) {
			t.Errorf("%d, %d of %v, %v: %v", x, y, a, b, s)
		}
		if s := ival.Sub(a, b); !s.Bad && (x-y < s.Lo || x-y > s.Hi) {
			t.Errorf("%d less %d of %v, %v: %v", x, y, a, b, s)
		}
		if s := ival.Neg(a); s.Bad || -x < s.Lo || -x > s.Hi {
			t.Errorf("%d of %v: %v", x, a, s)
		}
		if p := ival.Mul(a, b); !p.Bad && !between(p, times(x, y), great(one)) {
			t.Errorf("%d by %d of %v, %v: %v", x, y, a, b, p)
		}
		if d == 0 {
			continue
		}
		sign := 1
		if d < 0 {
			sign = -1
		}
		if p := ival.Part(a, n, d); !p.Bad && !between(p, times(x, n, sign), times(d, sign)) {
			t.Errorf("%d by %d by %d of %v: %v", x, n, d, a, p)
		}
	}
}

// P5.5: what comes of parts of intervals is held by what comes of them.
func TestPartsAreHeld(t *testing.T) {
	seed := chance(29)
	for range 20000 {
		a, b := seed.fine(), seed.fine()
		x, y := seed.part(a), seed.part(b)
		n, d := seed.end(), seed.end()
		for i, p := range [][2]api.Ival{
			{ival.Add(a, b), ival.Add(x, y)},
			{ival.Sub(a, b), ival.Sub(x, y)},
			{ival.Neg(a), ival.Neg(x)},
			{ival.Mul(a, b), ival.Mul(x, y)},
			{ival.Part(a, n, d), ival.Part(x, n, d)},
			{ival.Hull(a, b), ival.Hull(x, y)},
		} {
			if !p[0].Bad && !ival.Holds(p[0], p[1]) {
				t.Errorf("%d: %v and %v of %v and %v: %v, %v", i, x, y, a, b, p[1], p[0])
			}
		}
		if p := ival.Meet(x, y); !p.Bad && !ival.Holds(ival.Meet(a, b), p) {
			t.Errorf("%v and %v of %v and %v: %v", x, y, a, b, p)
		}
	}
}

// R4: a list is not changed, nor the room behind it.
func TestListsAreNotChanged(t *testing.T) {
	room := []api.Ival{{Lo: 3, Hi: 4}, {Lo: -1, Hi: 9}, {Lo: 5, Hi: 6}, {Lo: 2, Hi: 1}, bad}
	was := slices.Clone(room)
	ival.Hull(room[:3]...)
	ival.Hull(room...)
	ival.Fine(room[:3]...)
	ival.Fine(room...)
	if !slices.Equal(room, was) {
		t.Error(room)
	}
}

// R3: whatever was called before, bad ones too, the same is answered.
func TestNothingIsKept(t *testing.T) {
	for range 3 {
		if a := ival.Mul(ival.Make(-one, 2*one), ival.Of(3)); a != ival.Make(-3*one, 6*one) {
			t.Error(a)
		}
		if a := ival.Mul(ival.Point(most), ival.Point(most)); a != bad {
			t.Error(a)
		}
		if a := ival.Hull(ival.Of(1), ival.Of(-1)); a != ival.Make(-one, one) {
			t.Error(a)
		}
		if a := ival.Hull(); a != bad {
			t.Error(a)
		}
	}
}
