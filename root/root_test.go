package root_test

import (
	"math"
	"math/big"
	"slices"
	"testing"

	"gyre/api"
	"gyre/root"
	"gyre/wide"
)

const all = math.MaxUint64

var (
	zero  = api.Wide{}
	one   = api.Wide{1}
	minus = api.Wide{all, all, all, all}
	most  = api.Wide{all, all, all, math.MaxInt64}
	least = api.Wide{0, 0, 0, 1 << 63}
)

// great tells a number by the library's great numbers.
func great(a api.Wide) *big.Int {
	n := new(big.Int)
	for i := 3; i >= 0; i-- {
		n.Lsh(n, 64)
		n.Or(n, new(big.Int).SetUint64(a[i]))
	}
	if a[3]>>63 == 1 {
		n.Sub(n, new(big.Int).Lsh(big.NewInt(1), 256))
	}
	return n
}

// small tells a great number as a wide one, if it is one.
func small(n *big.Int) (a api.Wide, is bool) {
	m := new(big.Int).And(n, new(big.Int).Sub(new(big.Int).Lsh(big.NewInt(1), 256), big.NewInt(1)))
	word := new(big.Int).SetUint64(all)
	for i := range a {
		a[i] = new(big.Int).And(m, word).Uint64()
		m.Rsh(m, 64)
	}
	return a, great(a).Cmp(n) == 0
}

// drawn tells numbers of all sizes, of either sign, by a rule that is the same each time.
func drawn(many int, seed uint64) []api.Wide {
	next := func() uint64 {
		seed ^= seed << 13
		seed ^= seed >> 7
		seed ^= seed << 17
		return seed
	}
	var l []api.Wide
	for range many {
		n, _ := small(new(big.Int).Rsh(great(api.Wide{next(), next(), next(), next()}), uint(next()%256)))
		l = append(l, n)
	}
	return l
}

// edges are the ends of what words, ints and wide numbers hold, and what stands beside them, either way.
func edges() []api.Wide {
	l := []api.Wide{zero, one, minus, most, least, {2}, {3}, {10}, {1, 0, 0, 1 << 63}, {all, 0, all}}
	for _, shift := range []int{2, 3, 31, 32, 62, 63, 64, 65, 126, 127, 128, 129, 191, 192, 193, 253, 254} {
		p := new(big.Int).Lsh(big.NewInt(1), uint(shift))
		for d := int64(-1); d <= 1; d++ {
			n := new(big.Int).Add(p, big.NewInt(d))
			a, _ := small(n)
			b, _ := small(n.Neg(n))
			l = append(l, a, b)
		}
	}
	return l
}

// besideSquares are squares, and what stands beside them: of roots whose highest or lowest bits are all there, too, up to the greatest root that there is.
func besideSquares() []api.Wide {
	greatest := new(big.Int).Sqrt(great(most))
	roots := []*big.Int{greatest, new(big.Int).Sub(greatest, big.NewInt(1))}
	for shift := uint(0); shift < 128; shift++ {
		p := new(big.Int).Lsh(big.NewInt(1), shift)
		roots = append(roots, p, new(big.Int).Sub(p, big.NewInt(1)), new(big.Int).Add(p, big.NewInt(1)))
	}
	for _, a := range drawn(300, 3) {
		roots = append(roots, new(big.Int).Rsh(new(big.Int).Abs(great(a)), 128))
	}
	var l []api.Wide
	for _, r := range roots {
		square := new(big.Int).Mul(r, r)
		for d := int64(-1); d <= 1; d++ {
			if a, is := small(new(big.Int).Add(square, big.NewInt(d))); is {
				l = append(l, a)
			}
		}
	}
	return l
}

// P4.1: the chapter's example, and all small numbers.
func TestSmall(t *testing.T) {
	if r, e := root.Floor(wide.Of(99)); r != wide.Of(9) || e != api.OK {
		t.Error(r, e)
	}
	if r, e := root.Ceil(wide.Of(99)); r != wide.Of(10) || e != api.OK {
		t.Error(r, e)
	}
	r := 0
	for n := range 1000 {
		if (r+1)*(r+1) == n {
			r++
		}
		up := r
		if r*r < n {
			up++
		}
		floor, e := root.Floor(wide.Of(n))
		ceil, f := root.Ceil(wide.Of(n))
		k, g := root.Int(n)
		if floor != wide.Of(r) || ceil != wide.Of(up) || k != r || e != api.OK || f != api.OK || g != api.OK || root.Is(wide.Of(n)) != (up == r) {
			t.Error(n, floor, ceil, k, root.Is(wide.Of(n)), e, f, g)
		}
	}
}

// P4.1: held against the library's great numbers; below 0 there is none.
func TestOfAll(t *testing.T) {
	for _, a := range slices.Concat(edges(), besideSquares(), drawn(1000, 5)) {
		var floor, ceil api.Wide
		is, e := false, api.ErrArg
		if g := great(a); g.Sign() >= 0 {
			r := new(big.Int).Sqrt(g)
			floor, _ = small(r)
			ceil, is, e = floor, new(big.Int).Mul(r, r).Cmp(g) == 0, api.OK
			if !is {
				ceil, _ = small(r.Add(r, big.NewInt(1)))
			}
		}
		if r, f := root.Floor(a); r != floor || f != e {
			t.Errorf("Floor(%v) = %v, %d", great(a), great(r), f)
		}
		if r, f := root.Ceil(a); r != ceil || f != e {
			t.Errorf("Ceil(%v) = %v, %d", great(a), great(r), f)
		}
		if root.Is(a) != is {
			t.Errorf("Is(%v) = %v", great(a), !is)
		}
	}
}

// P4.1: the ends, told by hand.
func TestEnds(t *testing.T) {
	// The root of 2^255 is 2^127 times 1.41421356..
	low := api.Wide{0x597D89B3754ABE9F, 0xB504F333F9DE6484}
	high := api.Wide{0x597D89B3754ABEA0, 0xB504F333F9DE6484}
	for _, c := range []struct {
		name        string
		a           api.Wide
		floor, ceil api.Wide
		is          bool
		e           api.Errno
	}{
		{"0", zero, zero, zero, true, api.OK},
		{"1", one, one, one, true, api.OK},
		{"2^255 - 1", most, low, high, false, api.OK},
		{"2^254", api.Wide{0, 0, 0, 1 << 62}, api.Wide{0, 1 << 63}, api.Wide{0, 1 << 63}, true, api.OK},
		{"2^254 - 1", api.Wide{all, all, all, 1<<62 - 1}, api.Wide{all, 1<<63 - 1}, api.Wide{0, 1 << 63}, false, api.OK},
		{"2^254 and 1", api.Wide{1, 0, 0, 1 << 62}, api.Wide{0, 1 << 63}, api.Wide{1, 1 << 63}, false, api.OK},
		{"2^128", api.Wide{0, 0, 1}, api.Wide{0, 1}, api.Wide{0, 1}, true, api.OK},
		{"2^128 - 1", api.Wide{all, all}, api.Wide{all}, api.Wide{0, 1}, false, api.OK},
		{"-1", minus, zero, zero, false, api.ErrArg},
		{"-4", wide.Of(-4), zero, zero, false, api.ErrArg},
		{"-2^255", least, zero, zero, false, api.ErrArg},
		{"-2^255 and 1", api.Wide{1, 0, 0, 1 << 63}, zero, zero, false, api.ErrArg},
	} {
		if r, e := root.Floor(c.a); r != c.floor || e != c.e {
			t.Errorf("Floor of %s: %x, %d", c.name, r, e)
		}
		if r, e := root.Ceil(c.a); r != c.ceil || e != c.e {
			t.Errorf("Ceil of %s: %x, %d", c.name, r, e)
		}
		if root.Is(c.a) != c.is {
			t.Errorf("Is of %s: %v", c.name, !c.is)
		}
	}
}

// P4.1: roots of ints, at the greatest one, beside squares, and below 0.
func TestInt(t *testing.T) {
	for _, c := range []struct {
		n, want int
		e       api.Errno
	}{
		{0, 0, api.OK},
		{1, 1, api.OK},
		{25, 5, api.OK},
		{26, 5, api.OK},
		{35, 5, api.OK},
		{1<<62 - 1, 1<<31 - 1, api.OK},
		{1 << 62, 1 << 31, api.OK},
		{3037000499*3037000499 - 1, 3037000498, api.OK},
		{3037000499 * 3037000499, 3037000499, api.OK},
		{math.MaxInt, 3037000499, api.OK},
		{-1, 0, api.ErrArg},
		{-25, 0, api.ErrArg},
		{math.MinInt, 0, api.ErrArg},
		{math.MinInt + 1, 0, api.ErrArg},
	} {
		if r, e := root.Int(c.n); r != c.want || e != c.e {
			t.Errorf("Int(%d) = %d, %d", c.n, r, e)
		}
	}
	for _, a := range drawn(500, 7) {
		n := int(a[0])
		want, wantE := 0, api.ErrArg
		if n >= 0 {
			want, wantE = int(new(big.Int).Sqrt(big.NewInt(int64(n))).Int64()), api.OK
		}
		if r, e := root.Int(n); r != want || e != wantE {
			t.Errorf("Int(%d) = %d, %d", n, r, e)
		}
	}
}

// P4.2, P4.3: fractions, told by hand: roots that are whole, just below, and just above; halves between two whole numbers go up.
func TestFractions(t *testing.T) {
	for _, c := range []struct{ a, b, of, half int }{
		{0, 1, 0, 0},
		{0, 7, 0, 0},
		{1, 1, 1, 1},
		{1, 4, 0, 0},
		{3, 4, 0, 0},
		{4, 4, 1, 1},
		{5, 4, 1, 1},
		{2, 1, 1, 1},
		{8, 1, 2, 1},
		{9, 1, 3, 2},
		{35, 4, 2, 1},
		{36, 4, 3, 2},
		{15, 1, 3, 2},
		{16, 1, 4, 2},
		{24, 1, 4, 2},
		{25, 1, 5, 3},
		{99, 1, 9, 5},
		{100, 1, 10, 5},
		{121, 1, 11, 6},
		{899, 100, 2, 1},
		{900, 100, 3, 2},
		{901, 100, 3, 2},
		{1, math.MaxInt, 0, 0},
		{math.MaxInt, math.MaxInt, 1, 1},
		{math.MaxInt, 1, 3037000499, 1518500250},
	} {
		if r, e := root.Of(wide.Of(c.a), wide.Of(c.b)); r != wide.Of(c.of) || e != api.OK {
			t.Errorf("Of(%d, %d) = %v, %d", c.a, c.b, great(r), e)
		}
		if r, e := root.Half(wide.Of(c.a), wide.Of(c.b)); r != wide.Of(c.half) || e != api.OK {
			t.Errorf("Half(%d, %d) = %v, %d", c.a, c.b, great(r), e)
		}
	}
}

// P4.2, P4.3: the greatest fraction there is.
func TestFractionsAtTheEnd(t *testing.T) {
	if r, e := root.Of(most, one); r != (api.Wide{0x597D89B3754ABE9F, 0xB504F333F9DE6484}) || e != api.OK {
		t.Errorf("%x, %d", r, e)
	}
	if r, e := root.Half(most, one); r != (api.Wide{0x2CBEC4D9BAA55F50, 0x5A827999FCEF3242}) || e != api.OK {
		t.Errorf("%x, %d", r, e)
	}
	for _, a := range []api.Wide{zero, one, {all, all, all, math.MaxInt64 - 1}} {
		if r, e := root.Of(a, most); r != zero || e != api.OK {
			t.Errorf("%x, %d", r, e)
		}
	}
	if r, e := root.Of(most, most); r != one || e != api.OK {
		t.Errorf("%x, %d", r, e)
	}
}

// P4.2, P4.3: by 0 goes ahead of what is below 0; -2^255 is below 0 as others are.
func TestFractionsOfNone(t *testing.T) {
	for _, c := range []struct {
		a, b api.Wide
		e    api.Errno
	}{
		{zero, zero, api.ErrZero},
		{one, zero, api.ErrZero},
		{most, zero, api.ErrZero},
		{minus, zero, api.ErrZero},
		{least, zero, api.ErrZero},
		{minus, one, api.ErrArg},
		{one, minus, api.ErrArg},
		{minus, minus, api.ErrArg},
		{wide.Of(-4), wide.Of(-1), api.ErrArg},
		{zero, minus, api.ErrArg},
		{zero, least, api.ErrArg},
		{one, least, api.ErrArg},
		{least, one, api.ErrArg},
		{least, least, api.ErrArg},
		{least, most, api.ErrArg},
		{most, least, api.ErrArg},
	} {
		if r, e := root.Of(c.a, c.b); r != zero || e != c.e {
			t.Errorf("Of(%v, %v) = %v, %d", great(c.a), great(c.b), great(r), e)
		}
		if r, e := root.Half(c.a, c.b); r != zero || e != c.e {
			t.Errorf("Half(%v, %v) = %v, %d", great(c.a), great(c.b), great(r), e)
		}
	}
}

// fractions are pairs of numbers of all sizes, and those beside squares, times what they are divided by.
func fractions() [][2]api.Wide {
	var l [][2]api.Wide
	numbers := slices.Concat(edges(), drawn(60, 11))
	for _, a := range numbers {
		for _, b := range numbers {
			l = append(l, [2]api.Wide{a, b})
		}
	}
	for i, a := range besideSquares() {
		b := drawn(1, uint64(i+1))[0]
		for d := int64(-1); d <= 1; d++ {
			p := new(big.Int).Mul(great(a), great(b))
			if n, is := small(p.Add(p, big.NewInt(d))); is {
				l = append(l, [2]api.Wide{n, b})
			}
		}
	}
	return l
}

// P4.2, P4.3, P4.4: by squares alone: Of's root and its next one enclose the real root, and Half's is the nearest to half of it.
func TestFractionsBySquares(t *testing.T) {
	// Is the real root of a / b at least n?
	atLeast := func(n, a, b *big.Int) bool {
		square := new(big.Int).Mul(n, n)
		return n.Sign() <= 0 || square.Mul(square, b).Cmp(a) <= 0
	}
	for _, f := range fractions() {
		a, b := great(f[0]), great(f[1])
		of, e := root.Of(f[0], f[1])
		half, g := root.Half(f[0], f[1])
		if b.Sign() == 0 {
			if of != zero || half != zero || e != api.ErrZero || g != api.ErrZero {
				t.Errorf("%v by 0: %v, %d, %v, %d", a, of, e, half, g)
			}
			continue
		}
		if a.Sign() < 0 || b.Sign() < 0 {
			if of != zero || half != zero || e != api.ErrArg || g != api.ErrArg {
				t.Errorf("%v by %v: %v, %d, %v, %d", a, b, of, e, half, g)
			}
			continue
		}
		r := great(of)
		if e != api.OK || r.Sign() < 0 || !atLeast(r, a, b) || atLeast(new(big.Int).Add(r, big.NewInt(1)), a, b) {
			t.Errorf("Of(%v, %v) = %v, %d", a, b, r, e)
		}
		twice := great(half)
		twice.Lsh(twice, 1)
		if g != api.OK || twice.Sign() < 0 || !atLeast(new(big.Int).Sub(twice, big.NewInt(1)), a, b) || atLeast(new(big.Int).Add(twice, big.NewInt(1)), a, b) {
			t.Errorf("Half(%v, %v) = %v, %d", a, b, great(half), g)
		}
	}
}

// P4.4: a root and its next one enclose the real root, by their squares; of one more than the root's number it is the same, or one more.
func TestRootsEnclose(t *testing.T) {
	for _, a := range slices.Concat(edges(), besideSquares(), drawn(300, 13)) {
		if wide.Sign(a) < 0 || a == most {
			continue
		}
		low, _ := root.Floor(a)
		high, _ := root.Ceil(a)
		square := new(big.Int).Mul(great(low), great(low))
		upper := new(big.Int).Mul(great(high), great(high))
		if square.Cmp(great(a)) > 0 || upper.Cmp(great(a)) < 0 {
			t.Errorf("%v: %v, %v", great(a), great(low), great(high))
		}
		if is := low == high; is != root.Is(a) {
			t.Errorf("%v: %v, %v", great(a), great(low), great(high))
		}
		after, _ := wide.Add(a, one)
		next, _ := root.Floor(after)
		if more, _ := wide.Sub(next, low); more != zero && (more != one || !root.Is(after)) {
			t.Errorf("%v: %v, then %v", great(a), great(low), great(next))
		}
	}
}

// P4.4: roots go up with their numbers.
func TestRootsGoUp(t *testing.T) {
	l := slices.Concat(edges(), besideSquares(), drawn(300, 17))
	slices.SortFunc(l, wide.Cmp)
	var low, high api.Wide
	for _, a := range l {
		if wide.Sign(a) < 0 {
			continue
		}
		r, _ := root.Floor(a)
		up, _ := root.Ceil(a)
		if wide.Cmp(r, low) < 0 || wide.Cmp(up, high) < 0 {
			t.Errorf("%v: %v, %v behind %v, %v", great(a), great(r), great(up), great(low), great(high))
		}
		low, high = r, up
	}
}

// R3: whatever was called before, errors too, the same is answered.
func TestNothingIsKept(t *testing.T) {
	for range 3 {
		if r, e := root.Floor(wide.Of(99)); r != wide.Of(9) || e != api.OK {
			t.Error(r, e)
		}
		if r, e := root.Ceil(minus); r != zero || e != api.ErrArg {
			t.Error(r, e)
		}
		if r, e := root.Half(wide.Of(8), one); r != one || e != api.OK {
			t.Error(r, e)
		}
		if r, e := root.Of(one, zero); r != zero || e != api.ErrZero {
			t.Error(r, e)
		}
	}
}
