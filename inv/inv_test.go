package inv_test

import (
	"math"
	"math/big"
	"slices"
	"testing"

	"gyre/api"
	"gyre/inv"
	"gyre/ival"
)

const (
	one  = api.One
	most = api.MaxIval
)

var bad = api.Ival{Bad: true}

// is tells by the document's own words whether an interval may be.
func is(a api.Ival) bool {
	return !a.Bad && -most <= a.Lo && a.Lo <= a.Hi && a.Hi <= most
}

// told is what is told of two ends in order: the bad one, if one is beyond MaxIval.
func told(lo, hi *big.Int) api.Ival {
	limit := great(most)
	if lo.CmpAbs(limit) > 0 || hi.CmpAbs(limit) > 0 {
		return bad
	}
	return api.Ival{Lo: int(lo.Int64()), Hi: int(hi.Int64())}
}

func great(n int) *big.Int { return big.NewInt(int64(n)) }

func times(l ...int) *big.Int {
	p := big.NewInt(1)
	for _, n := range l {
		p.Mul(p, great(n))
	}
	return p
}

// floor of n by d, of whichever signs.
func floor(n, d *big.Int) *big.Int {
	if d.Sign() < 0 {
		n, d = new(big.Int).Neg(n), new(big.Int).Neg(d)
	}
	return new(big.Int).Div(n, d)
}

// ceil of n by d, of whichever signs.
func ceil(n, d *big.Int) *big.Int {
	q := floor(new(big.Int).Neg(n), d)
	return q.Neg(q)
}

// upper is the least number whose square is at least n.
func upper(n *big.Int) *big.Int {
	r := new(big.Int).Sqrt(n)
	if new(big.Int).Mul(r, r).Cmp(n) < 0 {
		r.Add(r, great(1))
	}
	return r
}

// ends are what ends are made of: those that the document names, what stands beside them, and such as may not be.
func ends() []int {
	l := []int{0, math.MaxInt, math.MinInt, math.MinInt + 1}
	for _, n := range []int{1, 3, 1 << 10, 1 << 15, one, 4 * one, 1 << 45, most} {
		for d := -1; d <= 1; d++ {
			l = append(l, n+d, -n-d)
		}
	}
	return l
}

// intervals are those of all ends, such as may be or not.
func intervals() []api.Ival {
	l := []api.Ival{bad, {Lo: 1, Hi: 2, Bad: true}, {Lo: 2, Hi: 1, Bad: true}, {Lo: most + 1, Hi: most + 1, Bad: true}}
	for _, lo := range ends() {
		for _, hi := range ends() {
			l = append(l, api.Ival{Lo: lo, Hi: hi})
		}
	}
	return l
}

// such are some that may not be.
func such() []api.Ival {
	return []api.Ival{
		bad, {Lo: one, Hi: 2 * one, Bad: true}, {Lo: 2, Hi: 1}, {Lo: one, Hi: -one}, {Lo: 1, Hi: most + 1}, {Lo: -most - 1, Hi: -1}, {Lo: -most - 1, Hi: most + 1},
		{Lo: most + 1, Hi: most + 1}, {Lo: math.MinInt, Hi: math.MaxInt}, {Lo: math.MaxInt, Hi: math.MinInt}, {Lo: 1, Hi: math.MaxInt}, {Lo: math.MinInt, Hi: -1},
	}
}

// chance tells numbers by a rule that is the same each time.
type chance uint64

func (c *chance) next() uint64 {
	*c ^= *c << 13
	*c ^= *c >> 7
	*c ^= *c << 17
	return uint64(*c)
}

// end is of any size up to MaxIval.
func (c *chance) end() int {
	n := int(c.next() >> (4 + c.next()%60))
	if c.next()%2 == 0 {
		return -n
	}
	return n
}

// fine is an interval that may be: of three one is above 0, or begins there, and one is narrow.
func (c *chance) fine() api.Ival {
	a, b := c.end(), c.end()
	switch c.next() % 3 {
	case 0:
		a, b = max(a, -a), max(b, -b)
	case 1:
		b = min(a+int(c.next()%5), most)
	}
	return api.Ival{Lo: min(a, b), Hi: max(a, b)}
}

// number is one of a's: often one of its ends.
func (c *chance) number(a api.Ival) int {
	switch c.next() % 4 {
	case 0:
		return a.Lo
	case 1:
		return a.Hi
	}
	return a.Lo + int(c.next()%uint64(a.Hi-a.Lo+1))
}

// part is a part of a.
func (c *chance) part(a api.Ival) api.Ival {
	x, y := c.number(a), c.number(a)
	return api.Ival{Lo: min(x, y), Hi: max(x, y)}
}

// drawn are intervals of all sizes.
func drawn(many int, seed chance) []api.Ival {
	var l []api.Ival
	for range many {
		l = append(l, seed.fine())
	}
	return l
}

// quot tells the quotient of intervals, by great numbers.
func quot(a, b api.Ival) api.Ival {
	if !is(a) || !is(b) || b.Lo <= 0 && 0 <= b.Hi {
		return bad
	}
	var lows, highs []*big.Int
	for _, x := range []int{a.Lo, a.Hi} {
		for _, y := range []int{b.Lo, b.Hi} {
			lows = append(lows, floor(times(x, one), great(y)))
			highs = append(highs, ceil(times(x, one), great(y)))
		}
	}
	return told(slices.MinFunc(lows, (*big.Int).Cmp), slices.MaxFunc(highs, (*big.Int).Cmp))
}

// square tells an interval's square, by great numbers.
func square(a api.Ival) api.Ival {
	if !is(a) {
		return bad
	}
	lo, hi := times(a.Lo, a.Lo), times(a.Hi, a.Hi)
	if lo.Cmp(hi) > 0 {
		lo, hi = hi, lo
	}
	if a.Lo <= 0 && 0 <= a.Hi {
		lo = great(0)
	}
	return told(floor(lo, great(one)), ceil(hi, great(one)))
}

// root tells an interval's root, by great numbers.
func root(a api.Ival) api.Ival {
	if !is(a) || a.Lo < 0 {
		return bad
	}
	return told(new(big.Int).Sqrt(times(a.Lo, one)), upper(times(a.Hi, one)))
}

// cube tells what Cube does, by great numbers.
func cube(a api.Ival) api.Ival {
	r := root(a)
	if !is(a) || a.Lo <= 0 || !is(r) {
		return bad
	}
	p := told(floor(times(a.Lo, r.Lo), great(one)), ceil(times(a.Hi, r.Hi), great(one)))
	return quot(api.Ival{Lo: one, Hi: one}, p)
}

// cases are answers, told by hand, with their names.
type cases []struct {
	name      string
	got, want api.Ival
}

func (l cases) hold(t *testing.T) {
	t.Helper()
	for _, c := range l {
		if c.got != c.want {
			t.Errorf("%s: %v, not %v", c.name, c.got, c.want)
		}
	}
}

// P6.1: quotients, told by hand.
func TestQuotByHand(t *testing.T) {
	of, to := ival.Of, ival.Make
	cases{
		{"six by two", inv.Quot(of(6), of(2)), of(3)},
		{"both below 0", inv.Quot(of(-6), of(-2)), of(3)},
		{"by one below 0", inv.Quot(of(6), of(-2)), of(-3)},
		{"of one below 0", inv.Quot(of(-6), of(2)), of(-3)},
		{"of nought", inv.Quot(of(0), of(7)), of(0)},
		{"above 0", inv.Quot(to(one, 6*one), to(one, 2*one)), to(one/2, 6*one)},
		{"about 0", inv.Quot(to(-4*one, 6*one), to(one, 2*one)), to(-4*one, 6*one)},
		{"about 0, by such as are below", inv.Quot(to(-4*one, 6*one), to(-2*one, -one)), to(-6*one, 4*one)},
		{"below 0 by such as are below", inv.Quot(to(-6*one, -one), to(-2*one, -one)), to(one/2, 6*one)},
		{"below 0 by such as are above", inv.Quot(to(-6*one, -one), to(one, 2*one)), to(-6*one, -one/2)},
		{"outward, above 0", inv.Quot(of(1), of(3)), to(one/3, one/3+1)},
		{"outward, below 0", inv.Quot(of(-1), of(3)), to(-one/3-1, -one/3)},
		{"outward, by one below 0", inv.Quot(of(1), of(-3)), to(-one/3-1, -one/3)},
		{"outward, both below 0", inv.Quot(of(-1), of(-3)), to(one/3, one/3+1)},
		{"outward from 0 up", inv.Quot(ival.Point(1), ival.Point(most)), to(0, 1)},
		{"outward from 0 down", inv.Quot(ival.Point(-1), ival.Point(most)), to(-1, 0)},
		{"itself", inv.Quot(to(one, 2*one), to(one, 2*one)), to(one/2, 2*one)},
	}.hold(t)
}

// P6.1: nothing is divided by what holds 0, at an end of it either.
func TestQuotByNought(t *testing.T) {
	for _, b := range []api.Ival{{}, {Lo: 0, Hi: 1}, {Lo: -1, Hi: 0}, {Lo: -1, Hi: 1}, {Lo: 0, Hi: most}, {Lo: -most, Hi: 0}, {Lo: -most, Hi: most}} {
		for _, a := range []api.Ival{{}, {Lo: 1, Hi: 1}, {Lo: one, Hi: one}, {Lo: -one, Hi: one}} {
			if got := inv.Quot(a, b); got != bad {
				t.Errorf("%v by %v: %v", a, b, got)
			}
		}
		if got := inv.Inverse(b); got != bad {
			t.Errorf("of %v: %v", b, got)
		}
	}
	cases{
		{"just above", inv.Quot(ival.Point(1), ival.Point(1)), ival.Of(1)},
		{"just below", inv.Quot(ival.Point(1), ival.Point(-1)), ival.Of(-1)},
		{"from just above", inv.Quot(ival.Point(0), api.Ival{Lo: 1, Hi: most}), ival.Point(0)},
		{"from just below", inv.Quot(ival.Point(0), api.Ival{Lo: -most, Hi: -1}), ival.Point(0)},
	}.hold(t)
}

// P6.1: MaxIval itself may be come to, what is beyond it may not, either way.
func TestQuotAtTheLimit(t *testing.T) {
	cases{
		{"by 1", inv.Quot(ival.Point(most), ival.Of(1)), ival.Point(most)},
		{"by -1", inv.Quot(ival.Point(most), ival.Of(-1)), ival.Point(-most)},
		{"from end to end", inv.Quot(ival.Make(-most, most), ival.Of(1)), ival.Make(-most, most)},
		{"a bit less than MaxIval", inv.Quot(ival.Point(most-1), ival.Of(1)), ival.Point(most - 1)},
		{"by a bit less than 1", inv.Quot(ival.Point(most), ival.Point(one-1)), bad},
		{"by a bit more than -1", inv.Quot(ival.Point(most), ival.Point(1-one)), bad},
		{"one end beyond", inv.Quot(ival.Point(most), ival.Make(one-1, one)), bad},
		{"the lower end beyond", inv.Quot(ival.Point(-most), ival.Make(one-1, one)), bad},
		{"outward to MaxIval", inv.Quot(ival.Point(one-1), ival.Point(1)), ival.Point(most - one)},
		{"one by the least", inv.Quot(ival.Of(1), ival.Point(1)), ival.Point(most)},
		{"one by the least, below 0", inv.Quot(ival.Of(1), ival.Point(-1)), ival.Point(-most)},
		{"more than one by the least", inv.Quot(ival.Point(one+1), ival.Point(1)), bad},
		{"more than one by the least, below 0", inv.Quot(ival.Point(one+1), ival.Point(-1)), bad},
		{"the greatest by the least", inv.Quot(ival.Point(most), ival.Point(1)), bad},
		{"the greatest by the least, below 0", inv.Quot(ival.Point(most), ival.Point(-1)), bad},
		{"the least by the greatest", inv.Quot(ival.Point(1), ival.Point(most)), api.Ival{Lo: 0, Hi: 1}},
		{"the greatest by itself", inv.Quot(ival.Point(most), ival.Point(most)), ival.Of(1)},
		{"numbers go round", inv.Quot(ival.Of(16), ival.Point(1)), bad},
		{"numbers go round to 0", inv.Quot(ival.Point(1<<34), ival.Point(1)), bad},
	}.hold(t)
}

// P6.1: all intervals of the ends that the document names, with some others, such as may be and such as may not.
func TestQuotAtTheEnds(t *testing.T) {
	others := slices.Concat(such(), drawn(12, 3), []api.Ival{
		{}, {Lo: 1, Hi: 1}, {Lo: -1, Hi: -1}, {Lo: -1, Hi: 1}, {Lo: 0, Hi: 1}, {Lo: -1, Hi: 0}, {Lo: one, Hi: one}, {Lo: -one, Hi: -one},
		{Lo: one - 1, Hi: one + 1}, {Lo: -most, Hi: most}, {Lo: most, Hi: most}, {Lo: -most, Hi: -most}, {Lo: 1, Hi: most}, {Lo: -most, Hi: -1},
	})
	for _, a := range intervals() {
		for _, b := range others {
			if got, want := inv.Quot(a, b), quot(a, b); got != want {
				t.Errorf("%v by %v: %v, not %v", a, b, got, want)
			}
			if got, want := inv.Quot(b, a), quot(b, a); got != want {
				t.Errorf("%v by %v: %v, not %v", b, a, got, want)
			}
		}
	}
}

// P6.1: intervals of all sizes.
func TestQuotOfAllSizes(t *testing.T) {
	l := drawn(150, 5)
	fine := 0
	for _, a := range l {
		for _, b := range l {
			got, want := inv.Quot(a, b), quot(a, b)
			if got != want {
				t.Errorf("%v by %v: %v, not %v", a, b, got, want)
			}
			if is(got) {
				fine++
			}
		}
	}
	if fine < 1000 {
		t.Errorf("too few of them may be: %d", fine)
	}
}

// P6.1: what is told of one by an interval.
func TestInverse(t *testing.T) {
	cases{
		{"of 1", inv.Inverse(ival.Of(1)), ival.Of(1)},
		{"of -1", inv.Inverse(ival.Of(-1)), ival.Of(-1)},
		{"of 8", inv.Inverse(ival.Of(8)), ival.Point(one / 8)},
		{"of an eighth", inv.Inverse(ival.Point(one / 8)), ival.Of(8)},
		{"of 3, outward", inv.Inverse(ival.Of(3)), ival.Make(one/3, one/3+1)},
		{"of -3, outward", inv.Inverse(ival.Of(-3)), ival.Make(-one/3-1, -one/3)},
		{"of 2 to 4", inv.Inverse(ival.Make(2*one, 4*one)), ival.Make(one/4, one/2)},
		{"of -4 to -2", inv.Inverse(ival.Make(-4*one, -2*one)), ival.Make(-one/2, -one/4)},
		{"of the greatest", inv.Inverse(ival.Point(most)), ival.Point(1)},
		{"of the least above 0", inv.Inverse(ival.Point(1)), ival.Point(most)},
		{"of the greatest below 0", inv.Inverse(ival.Point(-1)), ival.Point(-most)},
		{"of all above 0", inv.Inverse(ival.Make(1, most)), ival.Make(1, most)},
		{"of nought", inv.Inverse(ival.Of(0)), bad},
		{"of 0 to 1", inv.Inverse(ival.Make(0, one)), bad},
		{"of -1 to 0", inv.Inverse(ival.Make(-one, 0)), bad},
		{"of -1 to 1", inv.Inverse(ival.Make(-one, one)), bad},
	}.hold(t)
	for _, a := range slices.Concat(intervals(), such(), drawn(300, 7)) {
		if got, want := inv.Inverse(a), quot(api.Ival{Lo: one, Hi: one}, a); got != want {
			t.Errorf("of %v: %v, not %v", a, got, want)
		}
	}
}

// P6.2: squares: about 0 the least one is 0.
func TestSquare(t *testing.T) {
	cases{
		{"of 3", inv.Square(ival.Of(3)), ival.Of(9)},
		{"of -3", inv.Square(ival.Of(-3)), ival.Of(9)},
		{"of nought", inv.Square(ival.Of(0)), ival.Of(0)},
		{"of 2 to 3", inv.Square(ival.Make(2*one, 3*one)), ival.Make(4*one, 9*one)},
		{"of -3 to -2", inv.Square(ival.Make(-3*one, -2*one)), ival.Make(4*one, 9*one)},
		{"of -2 to 3", inv.Square(ival.Make(-2*one, 3*one)), ival.Make(0, 9*one)},
		{"of -3 to 2", inv.Square(ival.Make(-3*one, 2*one)), ival.Make(0, 9*one)},
		{"of 0 to 3", inv.Square(ival.Make(0, 3*one)), ival.Make(0, 9*one)},
		{"of -3 to 0", inv.Square(ival.Make(-3*one, 0)), ival.Make(0, 9*one)},
		{"of a bit", inv.Square(ival.Point(1)), ival.Make(0, 1)},
		{"of a bit below 0", inv.Square(ival.Point(-1)), ival.Make(0, 1)},
		{"of bits about 0", inv.Square(ival.Make(-1, 1)), ival.Make(0, 1)},
		{"outward", inv.Square(ival.Point(one + 1)), ival.Make(one+2, one+3)},
		{"just whole", inv.Square(ival.Point(1 << 15)), ival.Point(1)},
		{"up to MaxIval", inv.Square(ival.Point(1 << 45)), ival.Point(most)},
		{"up to MaxIval, from below 0", inv.Square(ival.Make(-1<<45, 1<<45)), ival.Make(0, most)},
		{"a bit beyond MaxIval", inv.Square(ival.Point(1<<45 + 1)), bad},
		{"a bit beyond MaxIval, from below 0", inv.Square(ival.Point(-1<<45 - 1)), bad},
		{"one end beyond", inv.Square(ival.Make(0, 1<<45+1)), bad},
		{"one end beyond, from below 0", inv.Square(ival.Make(-1<<45-1, 0)), bad},
		{"of MaxIval", inv.Square(ival.Point(most)), bad},
		{"of MaxIval either way", inv.Square(ival.Make(-most, most)), bad},
		{"numbers go round to 0", inv.Square(ival.Point(1 << 47)), bad},
		{"numbers go round to 1", inv.Square(ival.Point(1<<47 + 1)), bad},
	}.hold(t)
	for _, a := range slices.Concat(intervals(), such(), drawn(1000, 9)) {
		if got, want := inv.Square(a), square(a); got != want {
			t.Errorf("of %v: %v, not %v", a, got, want)
		}
	}
}

// P6.2: roots: none of numbers below 0.
func TestRoot(t *testing.T) {
	cases{
		{"the example", inv.Root(ival.Of(4)), ival.Of(2)},
		{"of nought", inv.Root(ival.Of(0)), ival.Of(0)},
		{"of 1", inv.Root(ival.Of(1)), ival.Of(1)},
		{"of 4 to 9", inv.Root(ival.Make(4*one, 9*one)), ival.Make(2*one, 3*one)},
		{"of 0 to 9", inv.Root(ival.Make(0, 9*one)), ival.Make(0, 3*one)},
		{"of a bit", inv.Root(ival.Point(1)), ival.Point(1 << 15)},
		{"outward", inv.Root(ival.Of(2)), ival.Make(1518500249, 1518500250)},
		{"of a bit more than 1", inv.Root(ival.Point(one + 1)), ival.Make(one, one+1)},
		{"of a bit less than 1", inv.Root(ival.Point(one - 1)), ival.Make(one-1, one)},
		{"of MaxIval", inv.Root(ival.Point(most)), ival.Point(1 << 45)},
		{"of a bit less than MaxIval", inv.Root(ival.Point(most - 1)), ival.Make(1<<45-1, 1<<45)},
		{"up to MaxIval", inv.Root(ival.Make(0, most)), ival.Make(0, 1<<45)},
		{"of a bit below 0", inv.Root(ival.Point(-1)), bad},
		{"from a bit below 0", inv.Root(ival.Make(-1, 0)), bad},
		{"from far below 0", inv.Root(ival.Make(-most, most)), bad},
		{"of -4", inv.Root(ival.Of(-4)), bad},
	}.hold(t)
	for _, a := range slices.Concat(intervals(), such(), drawn(1000, 11)) {
		if got, want := inv.Root(a), root(a); got != want {
			t.Errorf("of %v: %v, not %v", a, got, want)
		}
	}
}

// P6.3: one by a number and its root: none of 0 and of numbers below it.
func TestCube(t *testing.T) {
	cases{
		{"the example", inv.Cube(ival.Of(4)), ival.Point(one / 8)},
		{"of 1", inv.Cube(ival.Of(1)), ival.Of(1)},
		{"of a quarter", inv.Cube(ival.Point(one / 4)), ival.Of(8)},
		{"of 4 to 16", inv.Cube(ival.Make(4*one, 16*one)), ival.Make(one/64, one/8)},
		// 2 by its root is from 3037000498 to 3037000500.
		{"outward", inv.Cube(ival.Of(2)), ival.Make(most/3037000500, most/3037000498+1)},
		{"of the greatest number of which there is such a one", inv.Cube(ival.Point(1 << 50)), ival.Point(1)},
		{"of one whose product with its root is beyond MaxIval", inv.Cube(ival.Point(1<<50 + 1)), bad},
		{"of MaxIval", inv.Cube(ival.Point(most)), bad},
		{"just up to MaxIval", inv.Cube(ival.Point(1024)), ival.Point(most)},
		{"beyond MaxIval", inv.Cube(ival.Point(1023)), bad},
		{"one end beyond MaxIval", inv.Cube(ival.Make(1023, one)), bad},
		{"one end just up to MaxIval", inv.Cube(ival.Make(1024, one)), ival.Make(one, most)},
		{"of a bit", inv.Cube(ival.Point(1)), bad},
		{"of nought", inv.Cube(ival.Of(0)), bad},
		{"from nought", inv.Cube(ival.Make(0, 4*one)), bad},
		{"from nought up to MaxIval", inv.Cube(ival.Make(0, most)), bad},
		{"from below 0", inv.Cube(ival.Make(-4*one, 4*one)), bad},
		{"from a bit below 0", inv.Cube(ival.Make(-1, 4*one)), bad},
		{"of -4", inv.Cube(ival.Of(-4)), bad},
	}.hold(t)
	for _, a := range slices.Concat(intervals(), such(), drawn(1000, 13)) {
		if got, want := inv.Cube(a), cube(a); got != want {
			t.Errorf("of %v: %v, not %v", a, got, want)
		}
	}
}

// P6.4: a sign is told just where all numbers have it.
func TestSign(t *testing.T) {
	for _, c := range []struct {
		a    api.Ival
		sign int
		yes  bool
	}{
		{api.Ival{}, 0, true},
		{api.Ival{Lo: 1, Hi: 1}, 1, true},
		{api.Ival{Lo: 1, Hi: most}, 1, true},
		{api.Ival{Lo: most, Hi: most}, 1, true},
		{api.Ival{Lo: -1, Hi: -1}, -1, true},
		{api.Ival{Lo: -most, Hi: -1}, -1, true},
		{api.Ival{Lo: -most, Hi: -most}, -1, true},
		{api.Ival{Lo: 0, Hi: 1}, 0, false},
		{api.Ival{Lo: -1, Hi: 0}, 0, false},
		{api.Ival{Lo: -1, Hi: 1}, 0, false},
		{api.Ival{Lo: -most, Hi: most}, 0, false},
		{bad, 0, false},
		{api.Ival{Lo: 1, Hi: 1, Bad: true}, 0, false},
		{api.Ival{Lo: -1, Hi: -1, Bad: true}, 0, false},
		{api.Ival{Lo: 2, Hi: 1}, 0, false},
		{api.Ival{Lo: -1, Hi: -2}, 0, false},
		{api.Ival{Lo: 1, Hi: most + 1}, 0, false},
		{api.Ival{Lo: most + 1, Hi: most + 1}, 0, false},
		{api.Ival{Lo: -most - 1, Hi: -1}, 0, false},
		{api.Ival{Lo: math.MinInt, Hi: math.MinInt}, 0, false},
		{api.Ival{Lo: math.MaxInt, Hi: math.MinInt}, 0, false},
	} {
		if sign, yes := inv.Sign(c.a); sign != c.sign || yes != c.yes {
			t.Errorf("of %v: %d, %v", c.a, sign, yes)
		}
	}
	for _, a := range slices.Concat(intervals(), such(), drawn(1000, 15)) {
		sign, yes := great(a.Lo).Sign(), great(a.Lo).Sign() == great(a.Hi).Sign() && is(a)
		if !yes {
			sign = 0
		}
		if s, y := inv.Sign(a); s != sign || y != yes {
			t.Errorf("of %v: %d, %v", a, s, y)
		}
	}
}

// P6.1, P6.2, P6.3: of such as may not be the bad one is told, whatever stands beside them.
func TestSuchAsMayNotBe(t *testing.T) {
	for _, a := range such() {
		for _, good := range []api.Ival{{}, {Lo: one, Hi: one}, {Lo: -2 * one, Hi: -one}, {Lo: 1, Hi: most}} {
			for _, got := range []api.Ival{inv.Quot(a, good), inv.Quot(good, a), inv.Quot(a, a), inv.Inverse(a), inv.Square(a), inv.Root(a), inv.Cube(a)} {
				if got != bad {
					t.Errorf("%v, %v: %v", a, good, got)
				}
			}
		}
	}
}

// between tells whether lo <= n <= hi.
func between(lo, n, hi *big.Int) bool {
	return lo.Cmp(n) <= 0 && n.Cmp(hi) <= 0
}

// P6.5: the quotient of two numbers is held by that of their intervals: x One lies between its ends, times y.
func TestQuotientsAreHeld(t *testing.T) {
	seed := chance(17)
	held := 0
	for range 20000 {
		a, b := seed.fine(), seed.fine()
		q := inv.Quot(a, b)
		if !is(q) {
			continue
		}
		held++
		x, y := seed.number(a), seed.number(b)
		lo, hi := times(q.Lo, y), times(q.Hi, y)
		if y < 0 {
			lo, hi = hi, lo
		}
		if !between(lo, times(x, one), hi) {
			t.Errorf("%d of %v by %d of %v: not in %v", x, a, y, b, q)
		}
	}
	if held < 2000 {
		t.Errorf("too few of them may be: %d", held)
	}
}

// P6.5: squares, roots, and one by a number and its root are held, by whole numbers alone.
func TestRootsAreHeld(t *testing.T) {
	seed := chance(19)
	squares, roots, cubes := 0, 0, 0
	for range 20000 {
		a := seed.fine()
		x := seed.number(a)
		if s := inv.Square(a); is(s) {
			squares++
			if !between(times(s.Lo, one), times(x, x), times(s.Hi, one)) {
				t.Errorf("the square of %d of %v: not in %v", x, a, s)
			}
		}
		if r := inv.Root(a); is(r) {
			roots++
			if !between(times(r.Lo, r.Lo), times(x, one), times(r.Hi, r.Hi)) {
				t.Errorf("the root of %d of %v: not in %v", x, a, r)
			}
		}
		if c := inv.Cube(a); is(c) {
			cubes++
			if !between(times(c.Lo, c.Lo, x, x, x), times(one, one, one, one, one), times(c.Hi, c.Hi, x, x, x)) {
				t.Errorf("one by %d of %v and its root: not in %v", x, a, c)
			}
		}
	}
	if squares < 2000 || roots < 2000 || cubes < 2000 {
		t.Errorf("too few of them may be: %d, %d, %d", squares, roots, cubes)
	}
}

// P6.5: of a part of an interval what comes is held by what comes of it.
func TestOfParts(t *testing.T) {
	seed := chance(21)
	for range 10000 {
		a, b := seed.fine(), seed.fine()
		p, q := seed.part(a), seed.part(b)
		for name, c := range map[string][2]api.Ival{
			"Quot":    {inv.Quot(a, b), inv.Quot(p, q)},
			"Inverse": {inv.Inverse(a), inv.Inverse(p)},
			"Square":  {inv.Square(a), inv.Square(p)},
			"Root":    {inv.Root(a), inv.Root(p)},
			"Cube":    {inv.Cube(a), inv.Cube(p)},
		} {
			if whole, part := c[0], c[1]; is(whole) && (!is(part) || part.Lo < whole.Lo || part.Hi > whole.Hi) {
				t.Errorf("%s of %v and %v: %v; of their parts %v and %v: %v", name, a, b, whole, p, q, part)
			}
		}
		if sign, yes := inv.Sign(a); yes {
			if s, y := inv.Sign(p); s != sign || !y {
				t.Errorf("Sign of %v: %d; of its part %v: %d, %v", a, sign, p, s, y)
			}
		}
	}
}

// R3: no call hangs on what was called before.
func TestNothingIsKept(t *testing.T) {
	l := slices.Concat(such(), drawn(40, 23), []api.Ival{{}, {Lo: 4 * one, Hi: 4 * one}})
	all := func(a, b api.Ival) [5]api.Ival {
		return [5]api.Ival{inv.Quot(a, b), inv.Inverse(a), inv.Square(a), inv.Root(a), inv.Cube(a)}
	}
	var first [][5]api.Ival
	for i, a := range l {
		first = append(first, all(a, l[len(l)-1-i]))
	}
	for i := len(l) - 1; i >= 0; i-- {
		if again := all(l[i], l[len(l)-1-i]); again != first[i] {
			t.Errorf("%v: %v, then %v", l[i], first[i], again)
		}
	}
}
