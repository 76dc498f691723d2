package wide_test

import (
	"math"
	"math/big"
	"slices"
	"testing"

	"gyre/api"
	"gyre/wide"
)

var (
	zero  = api.Wide{}
	one   = api.Wide{1}
	minus = api.Wide{math.MaxUint64, math.MaxUint64, math.MaxUint64, math.MaxUint64}
	most  = api.Wide{math.MaxUint64, math.MaxUint64, math.MaxUint64, math.MaxInt64}
	least = api.Wide{0, 0, 0, 1 << 63}
)

// power is 2^n, as its rest by 2^256.
func power(n int) (a api.Wide) {
	a[n/64] = 1 << (n % 64)
	return a
}

// great tells a number by the library's great numbers.
func great(a api.Wide) *big.Int {
	n := new(big.Int)
	for i := 3; i >= 0; i-- {
		n.Lsh(n, 64)
		n.Or(n, new(big.Int).SetUint64(a[i]))
	}
	if a[3]>>63 == 1 {
		n.Sub(n, new(big.Int).Lsh(big.NewInt(1), 256))
	}
	return n
}

// rest tells a great number's rest by 2^256, and whether it is over.
func rest(n *big.Int) (a api.Wide, over bool) {
	m := new(big.Int).And(n, new(big.Int).Sub(new(big.Int).Lsh(big.NewInt(1), 256), big.NewInt(1)))
	word := new(big.Int).SetUint64(math.MaxUint64)
	for i := range a {
		a[i] = new(big.Int).And(m, word).Uint64()
		m.Rsh(m, 64)
	}
	return a, great(a).Cmp(n) != 0
}

// drawn tells numbers of all sizes by a rule that is the same each time.
func drawn(many int, seed uint64) []api.Wide {
	next := func() uint64 {
		seed ^= seed << 13
		seed ^= seed >> 7
		seed ^= seed << 17
		return seed
	}
	var l []api.Wide
	for range many {
		n, _ := rest(new(big.Int).Rsh(great(api.Wide{next(), next(), next(), next()}), uint(next()%256)))
		l = append(l, n)
	}
	return l
}

// edges are the ends of what words, ints and wide numbers hold, and what stands beside them, either way.
func edges() []api.Wide {
	l := []api.Wide{zero, one, minus, most, least, {0, math.MaxUint64}, {math.MaxUint64, 0, math.MaxUint64}}
	for _, shift := range []int{1, 31, 32, 62, 63, 64, 65, 126, 127, 128, 129, 191, 192, 193, 253, 254, 255} {
		p := new(big.Int).Lsh(big.NewInt(1), uint(shift))
		for d := int64(-1); d <= 1; d++ {
			n := new(big.Int).Add(p, big.NewInt(d))
			for _, v := range []*big.Int{n, new(big.Int).Neg(n)} {
				if a, over := rest(v); !over {
					l = append(l, a)
				}
			}
		}
	}
	return l
}

// P2.1: the words of a number, the lowest first, of either sign.
func TestOf(t *testing.T) {
	const all = math.MaxUint64
	for _, c := range []struct {
		n int
		a api.Wide
	}{
		{0, api.Wide{}},
		{1, api.Wide{1}},
		{-1, api.Wide{all, all, all, all}},
		{-2, api.Wide{all - 1, all, all, all}},
		{math.MaxInt, api.Wide{math.MaxInt64}},
		{math.MinInt, api.Wide{1 << 63, all, all, all}},
	} {
		if a := wide.Of(c.n); a != c.a {
			t.Errorf("Of(%d) = %x", c.n, a)
		}
		if n, is := wide.Int(c.a); n != c.n || !is {
			t.Errorf("Int(%x) = %d, %v", c.a, n, is)
		}
	}
}

// P2.1: what is no int is told as 0, and no: ones beside the ends too, and those whose lowest word alone would be one.
func TestIntOfNone(t *testing.T) {
	const all = math.MaxUint64
	for _, a := range []api.Wide{
		{1 << 63}, {1<<63 + 1}, {all}, {0, 1}, {5, 1}, {5, 0, 1}, {5, 0, 0, 1}, {5, 0, 0, 1 << 63},
		{1<<63 - 1, all, all, all}, {0, all, all, all}, {7, all, all, all}, {all, all - 1, all, all}, {all, all, all - 1, all}, {all, all, all, all - 1},
		{all, all, all, 0}, {all, all, 0, 0}, {all, 0, 0, all}, most, least,
	} {
		if n, is := wide.Int(a); n != 0 || is {
			t.Errorf("Int(%x) = %d, %v", a, n, is)
		}
	}
}

// P2.1: every edge, and drawn ones: an int just if the library's great number is one.
func TestIntOfAll(t *testing.T) {
	for _, a := range slices.Concat(edges(), drawn(500, 3)) {
		g := great(a)
		want := 0
		if g.IsInt64() {
			want = int(g.Int64())
		}
		if n, is := wide.Int(a); n != want || is != g.IsInt64() {
			t.Errorf("Int(%v) = %d, %v", g, n, is)
		}
	}
}

// P2.1: Cmp and Sign, each edge beside each.
func TestOrder(t *testing.T) {
	l := slices.Concat(edges(), drawn(40, 5))
	for _, a := range l {
		if got, want := wide.Sign(a), great(a).Sign(); got != want {
			t.Errorf("Sign(%v) = %d", great(a), got)
		}
		for _, b := range l {
			if got, want := wide.Cmp(a, b), great(a).Cmp(great(b)); got != want {
				t.Errorf("Cmp(%v, %v) = %d", great(a), great(b), got)
			}
		}
	}
}

// P2.1: numbers that differ in one word alone, whichever, and against lower words.
func TestOrderByWords(t *testing.T) {
	for i := range 4 {
		a, b := api.Wide{9, 9, 9, 9}, api.Wide{9, 9, 9, 9}
		b[i] = 10
		for k := range i {
			a[k] = math.MaxUint64
		}
		if wide.Cmp(a, b) != -1 || wide.Cmp(b, a) != 1 || wide.Cmp(a, a) != 0 {
			t.Error(i, wide.Cmp(a, b), wide.Cmp(b, a))
		}
	}
}

// P2.2: each call held against the library's great numbers, each edge beside each.
func TestArithmetic(t *testing.T) {
	type call struct {
		name string
		got  func(a, b api.Wide) (api.Wide, bool)
		want func(a, b *big.Int) *big.Int
	}
	calls := []call{
		{"Add", wide.Add, func(a, b *big.Int) *big.Int { return new(big.Int).Add(a, b) }},
		{"Sub", wide.Sub, func(a, b *big.Int) *big.Int { return new(big.Int).Sub(a, b) }},
		{"Mul", wide.Mul, func(a, b *big.Int) *big.Int { return new(big.Int).Mul(a, b) }},
		{"Neg", func(a, _ api.Wide) (api.Wide, bool) { return wide.Neg(a) }, func(a, _ *big.Int) *big.Int { return new(big.Int).Neg(a) }},
	}
	l := slices.Concat(edges(), drawn(60, 7))
	for _, a := range l {
		for _, b := range l {
			for _, c := range calls {
				want, wantOver := rest(c.want(great(a), great(b)))
				if r, over := c.got(a, b); r != want || over != wantOver {
					t.Errorf("%s(%v, %v) = %v, %v", c.name, great(a), great(b), great(r), over)
				}
			}
		}
	}
}

// P2.2: the ends, told by hand.
func TestEnds(t *testing.T) {
	half := power(254)
	minusHalf := api.Wide{0, 0, 0, 3 << 62}
	check := func(name string, r api.Wide, over bool, want api.Wide, wantOver bool) {
		t.Helper()
		if r != want || over != wantOver {
			t.Errorf("%s: %x, %v", name, r, over)
		}
	}
	r, over := wide.Mul(power(127), power(127))
	check("2^127 times 2^127", r, over, half, false)
	r, over = wide.Mul(power(127), power(128))
	check("2^127 times 2^128", r, over, least, true)
	negative, _ := wide.Neg(power(127))
	r, over = wide.Mul(negative, power(128))
	check("-2^127 times 2^128", r, over, least, false)
	r, over = wide.Mul(power(128), power(128))
	check("2^128 times 2^128", r, over, zero, true)
	r, over = wide.Mul(least, minus)
	check("-2^255 times -1", r, over, least, true)
	r, over = wide.Mul(least, one)
	check("-2^255 times 1", r, over, least, false)
	r, over = wide.Mul(least, least)
	check("-2^255 times itself", r, over, zero, true)
	r, over = wide.Mul(least, zero)
	check("-2^255 times 0", r, over, zero, false)
	r, over = wide.Mul(most, most)
	check("2^255 - 1 times itself", r, over, one, true)
	r, over = wide.Add(most, one)
	check("2^255 - 1 and 1", r, over, least, true)
	r, over = wide.Add(least, minus)
	check("-2^255 and -1", r, over, most, true)
	r, over = wide.Add(most, least)
	check("2^255 - 1 and -2^255", r, over, minus, false)
	r, over = wide.Add(minusHalf, minusHalf)
	check("-2^254 and -2^254", r, over, least, false)
	r, over = wide.Sub(least, one)
	check("-2^255 less 1", r, over, most, true)
	r, over = wide.Sub(zero, least)
	check("0 less -2^255", r, over, least, true)
	r, over = wide.Sub(minus, least)
	check("-1 less -2^255", r, over, most, false)
	r, over = wide.Neg(least)
	check("0 less -2^255, by Neg", r, over, least, true)
	r, over = wide.Neg(most)
	check("0 less 2^255 - 1", r, over, api.Wide{1, 0, 0, 1 << 63}, false)
	r, over = wide.Neg(zero)
	check("0 less 0", r, over, zero, false)
}

// P2.3: all of them; over as soon as one Add is, even if what comes of all is a wide number.
func TestSum(t *testing.T) {
	for i, c := range []struct {
		l    []api.Wide
		sum  api.Wide
		over bool
	}{
		{nil, zero, false},
		{[]api.Wide{}, zero, false},
		{[]api.Wide{most}, most, false},
		{[]api.Wide{least}, least, false},
		{[]api.Wide{one, one, one}, api.Wide{3}, false},
		{[]api.Wide{most, minus, one}, most, false},
		{[]api.Wide{most, one, minus}, most, true},
		{[]api.Wide{most, one}, least, true},
		{[]api.Wide{least, minus, one}, least, true},
		{[]api.Wide{least, most, one}, zero, false},
		{[]api.Wide{least, least}, zero, true},
		{[]api.Wide{least, least, one, one}, api.Wide{2}, true},
	} {
		if sum, over := wide.Sum(c.l...); sum != c.sum || over != c.over {
			t.Error(i, sum, over)
		}
	}
}

// P2.3: by Add, one behind the other, of long rows.
func TestSumByAdd(t *testing.T) {
	for seed := range uint64(40) {
		l := drawn(int(seed), seed+1)
		total, over := new(big.Int), false
		for _, a := range l {
			next, o := rest(total.Add(total, great(a)))
			total, over = great(next), over || o
		}
		want, _ := rest(total)
		if sum, o := wide.Sum(l...); sum != want || o != over {
			t.Errorf("seed %d: %x, %v", seed, sum, o)
		}
	}
}

// R4: neither the list nor the spare room behind it is changed.
func TestSumLeavesItsList(t *testing.T) {
	whole := []api.Wide{most, one, least, minus}
	wide.Sum(whole[:2]...)
	if !slices.Equal(whole, []api.Wide{most, one, least, minus}) {
		t.Error(whole)
	}
}

// P2.5: added and taken away again it is what it was; times a sum is the sum of the times, by rests.
func TestRestsFollow(t *testing.T) {
	l := slices.Concat(edges(), drawn(20, 11))
	for i, a := range l {
		for k, b := range l {
			sum, _ := wide.Add(a, b)
			if back, _ := wide.Sub(sum, b); back != a {
				t.Errorf("%v and %v less it: %v", great(a), great(b), great(back))
			}
			less, _ := wide.Sub(a, b)
			if back, _ := wide.Add(less, b); back != a {
				t.Errorf("%v less %v and it: %v", great(a), great(b), great(back))
			}
			c := l[(i*7+k*3)%len(l)]
			all, _ := wide.Mul(c, sum)
			ca, _ := wide.Mul(c, a)
			cb, _ := wide.Mul(c, b)
			if parts, _ := wide.Add(ca, cb); parts != all {
				t.Errorf("%v times %v and %v", great(c), great(a), great(b))
			}
		}
	}
}

// P2.5: order is one, and goes with adding, as long as nothing is over.
func TestOrderFollows(t *testing.T) {
	l := slices.Concat(edges()[:40], drawn(10, 13))
	for _, a := range l {
		for _, b := range l {
			order := wide.Cmp(a, b)
			if order != -wide.Cmp(b, a) || (order == 0) != (a == b) {
				t.Fatalf("%v beside %v", great(a), great(b))
			}
			for _, c := range l {
				if order <= 0 && wide.Cmp(b, c) <= 0 && wide.Cmp(a, c) > 0 {
					t.Errorf("%v, %v, %v do not rise", great(a), great(b), great(c))
				}
				ac, over := wide.Add(a, c)
				bc, o := wide.Add(b, c)
				if !over && !o && wide.Cmp(ac, bc) != order {
					t.Errorf("%v and %v, with %v added", great(a), great(b), great(c))
				}
			}
		}
	}
}
