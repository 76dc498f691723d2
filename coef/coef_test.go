package coef_test

import (
	"math"
	"math/big"
	"slices"
	"testing"

	"gyre/api"
	"gyre/coef"
)

const (
	most  = 1 << 21
	above = 1 << 36
	below = 1 << 24
)

func drift(n, d int) api.Op { return api.Op{Kind: api.OpDrift, N: n, D: d} }

func kick(n, d int) api.Op { return api.Op{Kind: api.OpKick, N: n, D: d} }

func lift(n, d int) api.Op { return api.Op{Kind: api.OpLift, N: n, D: d} }

// noMethods are numbers that are none; some of them are, with fewer bits.
func noMethods() []int {
	return []int{-1, -2, -5, 5, 6, 7, 100, 256, 257, 1 << 16, 1 << 32, 1<<32 + 1, -1 << 32, math.MaxInt, math.MinInt, math.MinInt + 1}
}

// chapter tells each method's parts, as the chapter puts them.
func chapter() [5][]int {
	eight := []int{741670, -409101, 190755, -573862, 299064, 334625, 315293, -796888}
	fifteen := slices.Clone(eight)
	for i := 6; i >= 0; i-- {
		fifteen = append(fifteen, eight[i])
	}
	return [5][]int{
		{1000000},
		{1351207, -1702414, 1351207},
		{784514, 235573, -1177680, 1315186, -1177680, 235573, 784514},
		fifteen,
		nil,
	}
}

// chance tells numbers by a rule that is the same each time.
type chance uint64

func (c *chance) next() uint64 {
	*c ^= *c << 13
	*c ^= *c >> 7
	*c ^= *c << 17
	return uint64(*c)
}

func (c *chance) number(to int) int {
	return int(c.next()%uint64(2*to+1)) - to
}

// op is an operation with numbers to there; now and then it is not right.
func (c *chance) op(n, d int) api.Op {
	o := api.Op{Kind: 1 + uint8(c.next()%3), N: c.number(n), D: 1 + int(c.next()%uint64(d))}
	switch c.next() % 40 {
	case 0:
		o.Kind = 0
	case 1:
		o.Kind = 4
	case 2:
		o.D = -o.D
	case 3:
		o.D = most + 1
	case 4:
		o.N = most + 1
	case 5:
		o.N, o.D = int(c.next()), int(c.next())
	}
	return o
}

func (c *chance) ops(long, n, d int) []api.Op {
	l := make([]api.Op, long)
	for i := range l {
		l[i] = c.op(n, d)
	}
	return l
}

// P14.1: the parts are those of the chapter; of Turning none; of no method an error.
func TestParts(t *testing.T) {
	for method, want := range chapter() {
		if l, e := coef.Parts(method); !slices.Equal(l, want) || e != api.OK {
			t.Error(method, l, e)
		}
	}
	for _, method := range noMethods() {
		if l, e := coef.Parts(method); l != nil || e != api.ErrArg {
			t.Error(method, l, e)
		}
	}
}

// P14.1: a step's operations by hand, in millionths and not in lowest terms.
func TestOpsByHand(t *testing.T) {
	for method, want := range map[int][]api.Op{
		api.Leapfrog: {drift(1000000, 2000000), kick(1000000, 1000000), drift(1000000, 2000000)},
		api.Three: {
			drift(1351207, 2000000), kick(1351207, 1000000), drift(1351207, 2000000),
			drift(-1702414, 2000000), kick(-1702414, 1000000), drift(-1702414, 2000000),
			drift(1351207, 2000000), kick(1351207, 1000000), drift(1351207, 2000000),
		},
		api.Turning: {drift(1, 4), lift(-8, 17), drift(1, 4), kick(1, 1), drift(1, 4), lift(-8, 17), drift(1, 4)},
	} {
		if l, e := coef.Ops(method); !slices.Equal(l, want) || e != api.OK {
			t.Error(method, l, e)
		}
	}
}

// P14.1: of each part a drift, a kick, a drift; of no method an error.
func TestOps(t *testing.T) {
	for method, parts := range chapter() {
		if method == api.Turning {
			continue
		}
		var want []api.Op
		for _, w := range parts {
			want = append(want, drift(w, 2000000), kick(w, 1000000), drift(w, 2000000))
		}
		if l, e := coef.Ops(method); !slices.Equal(l, want) || e != api.OK {
			t.Error(method, l, e)
		}
	}
	for _, method := range noMethods() {
		if l, e := coef.Ops(method); l != nil || e != api.ErrArg {
			t.Error(method, l, e)
		}
	}
}

// P14.1: names, and none of no method.
func TestName(t *testing.T) {
	for method, want := range []string{"leapfrog", "three", "seven", "fifteen", "turning"} {
		if name := coef.Name(method); name != want {
			t.Error(method, name)
		}
	}
	for _, method := range noMethods() {
		if name := coef.Name(method); name != "" {
			t.Error(method, name)
		}
	}
}

// P14.2: right at each end, and one beside it not; of all kinds there are.
func TestRight(t *testing.T) {
	ns := map[int]bool{0: true, 1: true, -1: true, most: true, -most: true, most - 1: true, most + 1: false, -most - 1: false, 1 << 32: false, -1 << 32: false, 1<<32 + 1: false, math.MaxInt: false, math.MinInt: false}
	ds := map[int]bool{1: true, 2: true, most: true, most - 1: true, most + 1: false, 0: false, -1: false, -most: false, 1 << 32: false, 1<<32 + 1: false, math.MaxInt: false, math.MinInt: false}
	for kind := range 256 {
		for n, isN := range ns {
			for d, isD := range ds {
				o := api.Op{Kind: uint8(kind), N: n, D: d}
				want := (kind == 1 || kind == 2 || kind == 3) && isN && isD
				if coef.Right(o) != want {
					t.Error(o)
				}
			}
		}
	}
}

// P14.2: back by hand: kinds and D stay, right or not.
func TestBackByHand(t *testing.T) {
	for _, c := range []struct{ l, want []api.Op }{
		{nil, nil},
		{[]api.Op{}, nil},
		{[]api.Op{drift(1, 4)}, []api.Op{drift(-1, 4)}},
		{[]api.Op{drift(1, 4), lift(-8, 17), kick(0, 3)}, []api.Op{kick(0, 3), lift(8, 17), drift(-1, 4)}},
		{[]api.Op{{}, {Kind: 9, N: math.MaxInt, D: math.MinInt}, drift(math.MinInt, -2), kick(math.MinInt+1, 0)}, []api.Op{kick(math.MaxInt, 0), drift(math.MinInt, -2), {Kind: 9, N: -math.MaxInt, D: math.MinInt}, {}}},
	} {
		if got := coef.Back(c.l...); !slices.Equal(got, c.want) {
			t.Error(c.l, got)
		}
	}
}

// P14.2, P14.4: back, each one stands as far from the end, its N the other way; back again they are what they were.
func TestBack(t *testing.T) {
	seed := chance(14)
	for long := range 60 {
		l := seed.ops(long, most, most)
		if long > 3 {
			l[long/2].N = math.MinInt
		}
		got := coef.Back(l...)
		if len(got) != long {
			t.Fatal(long, got)
		}
		for i, o := range l {
			if b := got[long-1-i]; b.Kind != o.Kind || b.D != o.D || b.N != -o.N {
				t.Error(o, b)
			}
		}
		if again := coef.Back(got...); !slices.Equal(again, l) {
			t.Error(l, again)
		}
	}
	if got := coef.Back(make([]api.Op, 100000)...); len(got) != 100000 {
		t.Error(len(got))
	}
}

// P14.3: sums by hand: in lowest terms, of one kind, of those that are right.
func TestTotalByHand(t *testing.T) {
	for _, c := range []struct {
		l    []api.Op
		n, d int
	}{
		{nil, 0, 1},
		{[]api.Op{}, 0, 1},
		{[]api.Op{drift(0, 7)}, 0, 1},
		{[]api.Op{drift(1, 2)}, 1, 2},
		{[]api.Op{drift(2, 4)}, 1, 2},
		{[]api.Op{drift(-6, 4)}, -3, 2},
		{[]api.Op{drift(6, 3)}, 2, 1},
		{[]api.Op{drift(1, 2), drift(1, 3)}, 5, 6},
		{[]api.Op{drift(1, 6), drift(1, 3)}, 1, 2},
		{[]api.Op{drift(1, 2), drift(-1, 2)}, 0, 1},
		{[]api.Op{drift(-1, 2), drift(-1, 3)}, -5, 6},
		{[]api.Op{drift(1, 2), kick(1, 3), lift(1, 5), drift(1, 7)}, 9, 14},
		{[]api.Op{kick(1, 2), lift(1, 3)}, 0, 1},
		{[]api.Op{drift(1, 0), drift(1, -2), drift(most+1, 1), drift(-most-1, 1), drift(1, most+1), drift(math.MinInt, 1), drift(1, math.MinInt)}, 0, 1},
		{[]api.Op{drift(1, 0), drift(1, 2), drift(most+1, 2), drift(3, 2)}, 2, 1},
		{[]api.Op{drift(1, most), drift(1, most)}, 1, most / 2},
		{[]api.Op{drift(most, most)}, 1, 1},
		{[]api.Op{drift(-most, 1)}, -most, 1},
	} {
		if n, d := coef.Total(api.OpDrift, c.l...); n != c.n || d != c.d {
			t.Error(c.l, n, d)
		}
	}
}

// P14.3: each kind for itself; of a kind that is none nothing is right.
func TestTotalKinds(t *testing.T) {
	l := []api.Op{drift(1, 2), kick(2, 3), lift(3, 5), {Kind: 0, N: 1, D: 7}, {Kind: 4, N: 1, D: 7}, {Kind: 255, N: 1, D: 7}}
	for kind := range 256 {
		want := [2]int{0, 1}
		if 1 <= kind && kind <= 3 {
			want = [][2]int{1: {1, 2}, 2: {2, 3}, 3: {3, 5}}[kind]
		}
		if n, d := coef.Total(uint8(kind), l...); n != want[0] || d != want[1] {
			t.Error(kind, n, d)
		}
	}
}

// P14.3: d up to 2^24; beyond it nothing is told, though the sum came back.
func TestTotalBelow(t *testing.T) {
	last := []api.Op{kick(1, 4095), kick(1, 4097)}
	if n, d := coef.Total(api.OpKick, last...); n != 8192 || d != below-1 {
		t.Error(n, d)
	}
	// 2^24 itself is no D of a sum, for no D has 2 more than 21 times: the next one is 97 times 257 times 673.
	first := []api.Op{kick(1, 97*257), kick(1, 673)}
	if 97*257*673 != below+1 {
		t.Fatal("by hand")
	}
	for _, l := range [][]api.Op{
		first,
		append(slices.Clone(first), coef.Back(first...)...),
		append(slices.Clone(first), kick(-1, 673)),
		append(slices.Clone(first), kick(1, 1), lift(1, 2), kick(1, 0)),
		{kick(1, most), kick(1, 2000000)},
		{kick(1, most), kick(1, most-1), kick(-1, most-1)},
		{kick(-1, most), kick(1, most-1), kick(1, most)},
	} {
		if n, d := coef.Total(api.OpKick, l...); n != 0 || d != 0 {
			t.Error(l, n, d)
		}
		if n, d := coef.Total(api.OpDrift, l...); n != 0 || d != 1 {
			t.Error(l, n, d)
		}
	}
	// In another order the same operations stay below.
	if n, d := coef.Total(api.OpKick, kick(1, most), kick(-1, most), kick(1, most-1)); n != 1 || d != most-1 {
		t.Error(n, d)
	}
}

// P14.3: n from -2^36 to 2^36; beyond it nothing is told, though the sum came back.
func TestTotalAbove(t *testing.T) {
	for _, sign := range []int{1, -1} {
		full := make([]api.Op, above/most)
		for i := range full {
			full[i] = lift(sign*most, 1)
		}
		for _, c := range []struct {
			more []api.Op
			n, d int
		}{
			{nil, above, 1},
			{[]api.Op{lift(0, 5)}, above, 1},
			{[]api.Op{lift(-sign, 1)}, above - 1, 1},
			{[]api.Op{lift(-sign, 1), lift(sign, 1)}, above, 1},
			{[]api.Op{lift(sign, 1)}, 0, 0},
			{[]api.Op{lift(sign, 1), lift(-sign, 1)}, 0, 0},
			{[]api.Op{lift(sign, 2)}, 0, 0},
			{[]api.Op{lift(-sign, 2)}, 0, 0},
			{[]api.Op{lift(sign*most, 1), lift(-sign*most, 1)}, 0, 0},
			{[]api.Op{drift(sign, 1), kick(sign, 1), lift(sign, 0), lift(sign*(most+1), 1)}, above, 1},
		} {
			l := append(slices.Clone(full), c.more...)
			if n, d := coef.Total(api.OpLift, l...); n != sign*c.n || d != c.d {
				t.Error(sign, c.more, n, d)
			}
		}
		// n of a fraction, too, though the sum itself is less.
		l := append(slices.Clone(full[:len(full)/2]), lift(sign, 2))
		if n, d := coef.Total(api.OpLift, l...); n != 0 || d != 0 {
			t.Error(n, d)
		}
		l = append(slices.Clone(full[:len(full)/2]), lift(-sign, 2))
		if n, d := coef.Total(api.OpLift, l...); n != sign*(above-1) || d != 2 {
			t.Error(n, d)
		}
	}
}

// total is the sum by the chapter's words, in fractions of all lengths.
func total(kind uint8, l []api.Op) (n, d int) {
	r := new(big.Rat)
	for _, o := range l {
		if o.Kind != kind || kind < 1 || kind > 3 || o.N < -most || o.N > most || o.D < 1 || o.D > most {
			continue
		}
		r.Add(r, big.NewRat(int64(o.N), int64(o.D)))
		if r.Denom().Cmp(big.NewInt(below)) > 0 || r.Num().CmpAbs(big.NewInt(above)) > 0 {
			return 0, 0
		}
	}
	return int(r.Num().Int64()), int(r.Denom().Int64())
}

// P14.3: sums of all kinds of operations.
func TestTotal(t *testing.T) {
	seed := chance(143)
	told, none := 0, 0
	for i := range 20000 {
		n, d := []int{5, 1000, most}[i%3], []int{3, 12, 60, 5000, most}[i%5]
		l := seed.ops(int(seed.next()%30), n, d)
		for kind := range uint8(5) {
			wantN, wantD := total(kind, l)
			if n, d := coef.Total(kind, l...); n != wantN || d != wantD {
				t.Error(kind, l, n, d)
			}
			if wantD == 0 {
				none++
			} else {
				told++
			}
		}
	}
	if told < 1000 || none < 1000 {
		t.Error(told, none)
	}
}

// P14.4: a step's operations are the same in reverse order, and right; what they are in all.
func TestSteps(t *testing.T) {
	totals := func(l []api.Op) (r [4][2]int) {
		for kind := range r {
			r[kind][0], r[kind][1] = coef.Total(uint8(kind), l...)
		}
		return r
	}
	for method := range api.Methods {
		l, _ := coef.Ops(method)
		reverse := slices.Clone(l)
		slices.Reverse(reverse)
		if len(l) == 0 || !slices.Equal(l, reverse) {
			t.Error(method, l)
		}
		for _, o := range l {
			if !coef.Right(o) {
				t.Error(method, o)
			}
		}
		want := [4][2]int{{0, 1}, {1, 1}, {1, 1}, {0, 1}}
		if method == api.Turning {
			want[3] = [2]int{-16, 17}
		}
		if got := totals(l); got != want {
			t.Error(method, got)
		}
		back := coef.Back(l...)
		if again := coef.Back(back...); !slices.Equal(again, l) {
			t.Error(method, again)
		}
		if got := totals(slices.Concat(l, back)); got != [4][2]int{{0, 1}, {0, 1}, {0, 1}, {0, 1}} {
			t.Error(method, got)
		}
	}
}

// P14.4: parts are the same in reverse order, and 1 in all, but of Turning.
func TestPartsAreWhole(t *testing.T) {
	for method := range api.Turning {
		l, _ := coef.Parts(method)
		sum := 0
		for i, w := range l {
			sum += w
			if w != l[len(l)-1-i] {
				t.Error(method, l)
			}
		}
		if sum != 1000000 || len(l) != 1<<(method+1)-1 {
			t.Error(method, sum, len(l))
		}
	}
}

// R3, R4: what is told is nobody else's, and what is handed in is not changed, spare room included.
func TestOwnMemory(t *testing.T) {
	for method := range api.Methods {
		for range 2 {
			parts, _ := coef.Parts(method)
			other, _ := coef.Parts(method)
			was := slices.Clone(other)
			for i := range parts[:cap(parts)] {
				parts[:cap(parts)][i] = -7
			}
			if want := chapter()[method]; !slices.Equal(other, was) || !slices.Equal(was, want) {
				t.Error(method, other)
			}
			ops, _ := coef.Ops(method)
			second, _ := coef.Ops(method)
			kept := slices.Clone(second)
			for i := range ops[:cap(ops)] {
				ops[:cap(ops)][i] = api.Op{}
			}
			if third, _ := coef.Ops(method); !slices.Equal(second, kept) || !slices.Equal(third, kept) {
				t.Error(method, second)
			}
		}
	}
	seed := chance(4)
	long := seed.ops(9, 10, 10)
	was := slices.Clone(long)
	for n := range long {
		l := long[:n]
		back := coef.Back(l...)
		coef.Total(api.OpDrift, l...)
		want := slices.Clone(back)
		for i := range back[:cap(back)] {
			back[:cap(back)][i] = api.Op{}
		}
		if !slices.Equal(long, was) {
			t.Fatal(n, long)
		}
		if again := coef.Back(l...); !slices.Equal(again, want) {
			t.Error(n, again)
		}
	}
}
