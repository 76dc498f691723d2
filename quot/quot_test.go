package quot_test

import (
	"math"
	"math/big"
	"slices"
	"testing"

	"gyre/api"
	"gyre/quot"
	"gyre/wide"
)

const all = math.MaxUint64

var (
	zero      = api.Wide{}
	one       = api.Wide{1}
	two       = api.Wide{2}
	minus     = api.Wide{all, all, all, all}
	most      = api.Wide{all, all, all, math.MaxInt64}
	minusMost = api.Wide{1, 0, 0, 1 << 63}
	least     = api.Wide{0, 0, 0, 1 << 63}
	half      = api.Wide{0, 0, 0, 1 << 62}
	minusHalf = api.Wide{0, 0, 0, 3 << 62}
)

type byTwo func(a, b api.Wide) (api.Wide, api.Errno)

// great tells a number by the library's great numbers.
func great(a api.Wide) *big.Int {
	n := new(big.Int)
	for i := 3; i >= 0; i-- {
		n.Lsh(n, 64)
		n.Or(n, new(big.Int).SetUint64(a[i]))
	}
	if a[3]>>63 == 1 {
		n.Sub(n, new(big.Int).Lsh(big.NewInt(1), 256))
	}
	return n
}

// small tells a great number as a wide one, if it is one.
func small(n *big.Int) (a api.Wide, is bool) {
	m := new(big.Int).And(n, new(big.Int).Sub(new(big.Int).Lsh(big.NewInt(1), 256), big.NewInt(1)))
	word := new(big.Int).SetUint64(all)
	for i := range a {
		a[i] = new(big.Int).And(m, word).Uint64()
		m.Rsh(m, 64)
	}
	return a, great(a).Cmp(n) == 0
}

// drawn tells numbers of all sizes, of either sign, by a rule that is the same each time.
func drawn(many int, seed uint64) []api.Wide {
	next := func() uint64 {
		seed ^= seed << 13
		seed ^= seed >> 7
		seed ^= seed << 17
		return seed
	}
	var l []api.Wide
	for range many {
		n, _ := small(new(big.Int).Rsh(great(api.Wide{next(), next(), next(), next()}), uint(next()%256)))
		l = append(l, n)
	}
	return l
}

// byWords are all numbers of words at which guesses of digits go wrong.
func byWords() []api.Wide {
	words := []uint64{0, 1, 1 << 63, all}
	var l []api.Wide
	for i := range 256 {
		l = append(l, api.Wide{words[i&3], words[i>>2&3], words[i>>4&3], words[i>>6]})
	}
	return l
}

// edges are the ends of what words, ints and wide numbers hold, and what stands beside them, either way.
func edges() []api.Wide {
	l := []api.Wide{zero, one, minus, most, minusMost, least, two, wide.Of(3), wide.Of(-3), wide.Of(10)}
	for _, shift := range []int{1, 31, 62, 63, 64, 65, 127, 128, 129, 191, 192, 193, 253, 254} {
		p := new(big.Int).Lsh(big.NewInt(1), uint(shift))
		for d := int64(-1); d <= 1; d++ {
			n := new(big.Int).Add(p, big.NewInt(d))
			a, _ := small(n)
			b, _ := small(n.Neg(n))
			l = append(l, a, b)
		}
	}
	return l
}

// floorOf is the greatest whole number that is not above a / b, by the library.
func floorOf(a, b *big.Int) *big.Int {
	q, r := new(big.Int).QuoRem(a, b, new(big.Int))
	if r.Sign()*b.Sign() < 0 {
		q.Sub(q, big.NewInt(1))
	}
	return q
}

func ceilOf(a, b *big.Int) *big.Int {
	q := floorOf(new(big.Int).Neg(a), b)
	return q.Neg(q)
}

// nearOf has the sign of a / b, and the floor of its size and a half.
func nearOf(a, b *big.Int) *big.Int {
	x, y := new(big.Int).Abs(a), new(big.Int).Abs(b)
	q := x.Lsh(x, 1).Add(x, y).Div(x, y.Lsh(y, 1))
	if a.Sign()*b.Sign() < 0 {
		q.Neg(q)
	}
	return q
}

func restOf(a, b *big.Int) *big.Int {
	p := new(big.Int).Mul(b, floorOf(a, b))
	return p.Sub(a, p)
}

// P3.1: the chapter's examples, and all that quotients of small numbers may be, of either sign.
func TestSmall(t *testing.T) {
	for _, c := range []struct{ a, b, floor, ceil, near, rest int }{
		{-7, 2, -4, -3, -4, 1},
		{7, 2, 3, 4, 4, 1},
		{7, -2, -4, -3, -4, -1},
		{-7, -2, 3, 4, 4, -1},
		{6, 2, 3, 3, 3, 0},
		{-6, 2, -3, -3, -3, 0},
		{6, -2, -3, -3, -3, 0},
		{0, 5, 0, 0, 0, 0},
		{0, -5, 0, 0, 0, 0},
		{1, 2, 0, 1, 1, 1},
		{-1, 2, -1, 0, -1, 1},
		{1, -2, -1, 0, -1, -1},
		{1, 3, 0, 1, 0, 1},
		{-1, 3, -1, 0, 0, 2},
		{2, 3, 0, 1, 1, 2},
		{-2, 3, -1, 0, -1, 1},
		{2, -3, -1, 0, -1, -1},
		{1, 4, 0, 1, 0, 1},
		{5, 1, 5, 5, 5, 0},
		{-5, 1, -5, -5, -5, 0},
		{5, -1, -5, -5, -5, 0},
		{149, 100, 1, 2, 1, 49},
		{150, 100, 1, 2, 2, 50},
		{151, 100, 1, 2, 2, 51},
		{-149, 100, -2, -1, -1, 51},
		{-150, 100, -2, -1, -2, 50},
	} {
		for _, call := range []struct {
			name string
			f    byTwo
			want int
		}{{"Floor", quot.Floor, c.floor}, {"Ceil", quot.Ceil, c.ceil}, {"Near", quot.Near, c.near}, {"Rest", quot.Rest, c.rest}} {
			if r, e := call.f(wide.Of(c.a), wide.Of(c.b)); r != wide.Of(call.want) || e != api.OK {
				t.Errorf("%s(%d, %d) = %v, %d", call.name, c.a, c.b, great(r), e)
			}
		}
	}
}

type wanted struct {
	name string
	f    byTwo
	want func(a, b *big.Int) *big.Int
}

func wantedOfAll() []wanted {
	return []wanted{{"Floor", quot.Floor, floorOf}, {"Ceil", quot.Ceil, ceilOf}, {"Near", quot.Near, nearOf}, {"Rest", quot.Rest, restOf}}
}

// checkAll holds each call against the library's great numbers, at each number by each.
func checkAll(t *testing.T, as, bs []api.Wide) {
	t.Helper()
	calls := wantedOfAll()
	for _, a := range as {
		for _, b := range bs {
			for _, c := range calls {
				var want api.Wide
				wantE := api.OK
				switch {
				case b == zero:
					wantE = api.ErrZero
				case a == least || b == least:
					wantE = api.ErrOver
				default:
					want, _ = small(c.want(great(a), great(b)))
				}
				if r, e := c.f(a, b); r != want || e != wantE {
					t.Fatalf("%s(%v, %v) = %v, %d", c.name, great(a), great(b), great(r), e)
				}
			}
		}
	}
}

// P3.1: at the ends, each edge by each.
func TestEdges(t *testing.T) {
	l := slices.Concat(edges(), drawn(40, 5))
	checkAll(t, l, l)
}

// P3.1: where the first words alone would tell digits that are too great.
func TestByWords(t *testing.T) {
	l := byWords()
	step := 1
	if testing.Short() {
		step = 5
	}
	for i := 0; i < len(l); i += step {
		checkAll(t, l[i:i+1], l)
	}
}

// P3.1: numbers of all sizes.
func TestDrawn(t *testing.T) {
	checkAll(t, drawn(200, 7), drawn(200, 11))
}

// P3.1: multiples, and what stands beside them and beside their halves: there rests are 0, and two whole numbers are as near as each other.
func TestBesideMultiples(t *testing.T) {
	for i, b := range drawn(400, 13) {
		q := drawn(1, uint64(i+1))[0]
		p := new(big.Int).Mul(great(b), great(q))
		p.Rsh(p, uint(max(0, p.BitLen()-250)))
		if b == zero || b == least {
			continue
		}
		p.Sub(p, restOf(p, great(b)))
		for _, beside := range []*big.Int{new(big.Int), new(big.Int).Quo(great(b), big.NewInt(2))} {
			for d := int64(-1); d <= 1; d++ {
				n := new(big.Int).Add(p, beside)
				if a, is := small(n.Add(n, big.NewInt(d))); is {
					checkAll(t, []api.Wide{a}, []api.Wide{b})
				}
			}
		}
	}
}

// P3.1: the ends, told by hand.
func TestEnds(t *testing.T) {
	for _, c := range []struct {
		name string
		f    byTwo
		a, b api.Wide
		want api.Wide
	}{
		{"Floor of the greatest by 1", quot.Floor, most, one, most},
		{"Floor of the greatest by -1", quot.Floor, most, minus, minusMost},
		{"Floor of the least but one by -1", quot.Floor, minusMost, minus, most},
		{"Ceil of the least but one by 1", quot.Ceil, minusMost, one, minusMost},
		{"Near of the least but one by -1", quot.Near, minusMost, minus, most},
		{"Floor of the greatest by 2", quot.Floor, most, two, api.Wide{all, all, all, 1<<62 - 1}},
		{"Ceil of the greatest by 2", quot.Ceil, most, two, half},
		{"Near of the greatest by 2", quot.Near, most, two, half},
		{"Near of the least but one by 2", quot.Near, minusMost, two, minusHalf},
		{"Floor of the least but one by 2", quot.Floor, minusMost, two, minusHalf},
		{"Floor of 1 by the greatest", quot.Floor, one, most, zero},
		{"Floor of -1 by the greatest", quot.Floor, minus, most, minus},
		{"Ceil of 1 by the greatest", quot.Ceil, one, most, one},
		{"Ceil of -1 by the greatest", quot.Ceil, minus, most, zero},
		{"Near of 2^254 by the greatest", quot.Near, half, most, one},
		{"Near of 2^254 - 1 by the greatest", quot.Near, api.Wide{all, all, all, 1<<62 - 1}, most, zero},
		{"Near of -2^254 by the greatest", quot.Near, minusHalf, most, minus},
		{"Rest of -1 by the greatest", quot.Rest, minus, most, api.Wide{all - 1, all, all, math.MaxInt64}},
		{"Rest of 1 by the least but one", quot.Rest, one, minusMost, api.Wide{2, 0, 0, 1 << 63}},
		{"Rest of the least but one by 2^254 and 1", quot.Rest, minusMost, api.Wide{1, 0, 0, 1 << 62}, api.Wide{3}},
		{"Rest of the greatest by itself", quot.Rest, most, most, zero},
		{"Floor of the greatest by the least but one", quot.Floor, most, minusMost, minus},
	} {
		if r, e := c.f(c.a, c.b); r != c.want || e != api.OK {
			t.Errorf("%s: %x, %d", c.name, r, e)
		}
	}
}

// The errors of a by b: by 0 goes ahead of all, -2^255 is over even where what would come is a wide number.
func TestErrors(t *testing.T) {
	for _, c := range wantedOfAll() {
		for _, x := range []struct {
			a, b api.Wide
			e    api.Errno
		}{
			{zero, zero, api.ErrZero},
			{one, zero, api.ErrZero},
			{minus, zero, api.ErrZero},
			{most, zero, api.ErrZero},
			{least, zero, api.ErrZero},
			{least, one, api.ErrOver},
			{least, minus, api.ErrOver},
			{least, two, api.ErrOver},
			{least, least, api.ErrOver},
			{least, most, api.ErrOver},
			{zero, least, api.ErrOver},
			{one, least, api.ErrOver},
			{most, least, api.ErrOver},
		} {
			if r, e := c.f(x.a, x.b); r != zero || e != x.e {
				t.Errorf("%s(%v, %v) = %v, %d", c.name, great(x.a), great(x.b), great(r), e)
			}
		}
	}
}

// P3.2: each shift of each edge.
func TestShifts(t *testing.T) {
	for _, a := range slices.Concat(edges(), drawn(40, 17)) {
		for n := 0; n <= 254; n++ {
			want, is := small(new(big.Int).Lsh(great(a), uint(n)))
			wantE := api.OK
			if !is {
				want, wantE = zero, api.ErrOver
			}
			if r, e := quot.Left(a, n); r != want || e != wantE {
				t.Errorf("Left(%v, %d) = %v, %d", great(a), n, great(r), e)
			}
			want, _ = small(new(big.Int).Rsh(great(a), uint(n)))
			wantE = api.OK
			if a == least {
				want, wantE = zero, api.ErrOver
			}
			if r, e := quot.Right(a, n); r != want || e != wantE {
				t.Errorf("Right(%v, %d) = %v, %d", great(a), n, great(r), e)
			}
		}
	}
}

// P3.2: shifts, told by hand: -2^255 may come of Left, and be left as it is by it.
func TestShiftsByHand(t *testing.T) {
	for _, c := range []struct {
		name string
		f    func(api.Wide, int) (api.Wide, api.Errno)
		a    api.Wide
		n    int
		want api.Wide
		e    api.Errno
	}{
		{"Left", quot.Left, one, 0, one, api.OK},
		{"Left", quot.Left, one, 64, api.Wide{0, 1}, api.OK},
		{"Left", quot.Left, one, 254, half, api.OK},
		{"Left", quot.Left, two, 254, zero, api.ErrOver},
		{"Left", quot.Left, minus, 254, minusHalf, api.OK},
		{"Left", quot.Left, wide.Of(-2), 254, least, api.OK},
		{"Left", quot.Left, wide.Of(-3), 254, zero, api.ErrOver},
		{"Left", quot.Left, wide.Of(4), 254, zero, api.ErrOver},
		{"Left", quot.Left, minusHalf, 1, least, api.OK},
		{"Left", quot.Left, half, 1, zero, api.ErrOver},
		{"Left", quot.Left, least, 0, least, api.OK},
		{"Left", quot.Left, least, 1, zero, api.ErrOver},
		{"Left", quot.Left, most, 0, most, api.OK},
		{"Left", quot.Left, most, 1, zero, api.ErrOver},
		{"Left", quot.Left, zero, 254, zero, api.OK},
		{"Right", quot.Right, wide.Of(7), 1, wide.Of(3), api.OK},
		{"Right", quot.Right, wide.Of(-7), 1, wide.Of(-4), api.OK},
		{"Right", quot.Right, minus, 254, minus, api.OK},
		{"Right", quot.Right, minusMost, 254, wide.Of(-2), api.OK},
		{"Right", quot.Right, minusHalf, 254, minus, api.OK},
		{"Right", quot.Right, most, 254, one, api.OK},
		{"Right", quot.Right, half, 254, one, api.OK},
		{"Right", quot.Right, most, 0, most, api.OK},
		{"Right", quot.Right, least, 0, zero, api.ErrOver},
		{"Right", quot.Right, least, 1, zero, api.ErrOver},
		{"Right", quot.Right, least, 254, zero, api.ErrOver},
	} {
		if r, e := c.f(c.a, c.n); r != c.want || e != c.e {
			t.Errorf("%s(%v, %d) = %x, %d", c.name, great(c.a), c.n, r, e)
		}
	}
}

// P3.2: shifts that may not be, of any number; that goes ahead of what is over.
func TestShiftsOfNone(t *testing.T) {
	for _, n := range []int{-1, -2, -64, -255, -256, 255, 256, 257, 320, 512, 1 << 32, 1<<32 + 1, -1 << 32, math.MaxInt, math.MinInt, math.MinInt + 1} {
		for _, a := range []api.Wide{zero, one, minus, most, least} {
			if r, e := quot.Left(a, n); r != zero || e != api.ErrArg {
				t.Errorf("Left(%v, %d) = %v, %d", great(a), n, great(r), e)
			}
			if r, e := quot.Right(a, n); r != zero || e != api.ErrArg {
				t.Errorf("Right(%v, %d) = %v, %d", great(a), n, great(r), e)
			}
		}
	}
}

// P3.3: by hand: the nearest, ends of ints, what is no int, and by 0.
func TestInts(t *testing.T) {
	for _, c := range []struct {
		a, b, c, want int
		e             api.Errno
	}{
		{7, 1, 2, 4, api.OK},
		{-7, 1, 2, -4, api.OK},
		{7, -1, 2, -4, api.OK},
		{7, 1, -2, -4, api.OK},
		{-7, -1, -2, -4, api.OK},
		{5, 7, 3, 12, api.OK},
		{100, 149, 10000, 1, api.OK},
		{100, 150, 10000, 2, api.OK},
		{1, 1, 3, 0, api.OK},
		{1, -1, 3, 0, api.OK},
		{0, math.MinInt, math.MinInt, 0, api.OK},
		{math.MaxInt, math.MaxInt, math.MaxInt, math.MaxInt, api.OK},
		{math.MinInt, math.MinInt, math.MinInt, math.MinInt, api.OK},
		{math.MaxInt, -1, 1, -math.MaxInt, api.OK},
		{math.MinInt, 1, 1, math.MinInt, api.OK},
		{math.MinInt, -1, -1, math.MinInt, api.OK},
		{math.MinInt, 1, math.MinInt, 1, api.OK},
		{math.MinInt, math.MaxInt, math.MinInt, math.MaxInt, api.OK},
		{math.MinInt, math.MaxInt, math.MaxInt, math.MinInt, api.OK},
		{1, 1, math.MinInt, 0, api.OK},
		{1 << 62, 1, math.MinInt, -1, api.OK},
		{1<<62 - 1, 1, math.MinInt, 0, api.OK},
		{math.MinInt, -1, 1, 0, api.ErrOver},
		{math.MinInt, 1, -1, 0, api.ErrOver},
		{math.MaxInt, 2, 1, 0, api.ErrOver},
		{math.MinInt, math.MinInt, 1, 0, api.ErrOver},
		{math.MinInt, math.MinInt, math.MaxInt, 0, api.ErrOver},
		{math.MaxInt, math.MaxInt, 1, 0, api.ErrOver},
		{1 << 32, 1 << 32, 1, 0, api.ErrOver},
		{1 << 33, 1 << 32, 4, 0, api.ErrOver},
		{1 << 33, 1 << 32, -4, math.MinInt, api.OK},
		{0, 0, 0, 0, api.ErrZero},
		{1, 1, 0, 0, api.ErrZero},
		{math.MinInt, math.MinInt, 0, 0, api.ErrZero},
		{math.MaxInt, -3, 0, 0, api.ErrZero},
	} {
		if n, e := quot.Ints(c.a, c.b, c.c); n != c.want || e != c.e {
			t.Errorf("Ints(%d, %d, %d) = %d, %d", c.a, c.b, c.c, n, e)
		}
	}
}

// P3.3: held against the library's great numbers, each int by each.
func TestIntsOfAll(t *testing.T) {
	l := []int{0, 1, -1, 2, -2, 3, -3, 10, 1 << 30, -1 << 30, 1<<31 - 1, 1 << 32, 1 << 60, -1 << 60, 1 << 62, -1 << 62, math.MaxInt, math.MaxInt - 1, math.MinInt, math.MinInt + 1}
	for _, a := range drawn(20, 19) {
		l = append(l, int(a[0]))
	}
	for _, a := range l {
		for _, b := range l {
			for _, c := range l {
				want, wantE := 0, api.ErrZero
				if c != 0 {
					g := nearOf(new(big.Int).Mul(big.NewInt(int64(a)), big.NewInt(int64(b))), big.NewInt(int64(c)))
					wantE = api.ErrOver
					if g.IsInt64() {
						want, wantE = int(g.Int64()), api.OK
					}
				}
				if n, e := quot.Ints(a, b, c); n != want || e != wantE {
					t.Fatalf("Ints(%d, %d, %d) = %d, %d", a, b, c, n, e)
				}
			}
		}
	}
}

// P3.4: the floor times b, and the rest, are a; the rest has b's sign and is nearer to 0; the ceiling is the floor, or one above; the nearest of -a goes with that of a.
func TestQuotientsFollow(t *testing.T) {
	l := slices.Concat(edges(), drawn(60, 23))
	for _, a := range l {
		for _, b := range l {
			if a == least || b == least || b == zero {
				continue
			}
			floor, _ := quot.Floor(a, b)
			ceil, _ := quot.Ceil(a, b)
			near, _ := quot.Near(a, b)
			left, _ := quot.Rest(a, b)
			p, _ := wide.Mul(floor, b)
			if sum, _ := wide.Add(p, left); sum != a {
				t.Fatalf("%v by %v: %v, rest %v", great(a), great(b), great(floor), great(left))
			}
			if left != zero && (wide.Sign(left) != wide.Sign(b) || great(left).CmpAbs(great(b)) >= 0) {
				t.Fatalf("rest of %v by %v: %v", great(a), great(b), great(left))
			}
			above, _ := wide.Add(floor, one)
			if left == zero && ceil != floor || left != zero && ceil != above || near != floor && near != ceil {
				t.Fatalf("%v by %v: %v, %v, %v", great(a), great(b), great(floor), great(ceil), great(near))
			}
			other, _ := wide.Neg(a)
			otherNear, _ := quot.Near(other, b)
			if sum, _ := wide.Add(near, otherNear); sum != zero {
				t.Fatalf("%v by %v: %v and %v", great(a), great(b), great(near), great(otherNear))
			}
		}
	}
}

// P3.4: shifted left and right again a number is as it was; -2^255 alone, which Right does not take, is not.
func TestShiftsFollow(t *testing.T) {
	for _, a := range slices.Concat(edges(), drawn(60, 29)) {
		for n := range 255 {
			up, e := quot.Left(a, n)
			if e != api.OK || up == least {
				continue
			}
			if back, e := quot.Right(up, n); back != a || e != api.OK {
				t.Fatalf("%v by %d: %v, %d", great(a), n, great(back), e)
			}
		}
	}
}

// R3: whatever was called before, errors too, the same is answered.
func TestNothingIsKept(t *testing.T) {
	for range 3 {
		if r, e := quot.Near(wide.Of(-7), two); r != wide.Of(-4) || e != api.OK {
			t.Error(r, e)
		}
		if r, e := quot.Floor(one, zero); r != zero || e != api.ErrZero {
			t.Error(r, e)
		}
		if r, e := quot.Left(most, 1); r != zero || e != api.ErrOver {
			t.Error(r, e)
		}
	}
}
