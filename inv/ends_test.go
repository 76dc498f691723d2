package inv

import (
	"iter"
	"math"
	"slices"
	"testing"

	"gyre/api"
	"gyre/ival"
	"gyre/wide"
)

var bad = api.Ival{Bad: true}

// pairs gathers what an iterator tells, and leaves it behind so many.
func pairs(l iter.Seq2[api.Wide, api.Wide], early int) [][2]api.Wide {
	var got [][2]api.Wide
	for n, d := range l {
		got = append(got, [2]api.Wide{n, d})
		if len(got) == early {
			break
		}
	}
	return got
}

// fractions are numbers, each with what it is to be divided by.
func fractions(l ...[2]int) iter.Seq2[api.Wide, api.Wide] {
	return func(yield func(n, d api.Wide) bool) {
		for _, f := range l {
			if !yield(wide.Of(f[0]), wide.Of(f[1])) {
				return
			}
		}
	}
}

// Whoever goes over the quotients may leave at each of them, and go over them again.
func TestIterators(t *testing.T) {
	const one = api.One
	for name, c := range map[string]struct {
		l    iter.Seq2[api.Wide, api.Wide]
		want [][2]api.Wide
	}{
		"quotients": {quotients(api.Ival{Lo: -2, Hi: 3}, api.Ival{Lo: 5, Hi: 7}), pairs(fractions([2]int{-2 * one, 5}, [2]int{-2 * one, 7}, [2]int{3 * one, 5}, [2]int{3 * one, 7}), 0)},
		"squares":   {squares(3, -4, 0), pairs(fractions([2]int{9, one}, [2]int{16, one}, [2]int{0, one}), 0)},
		"none":      {squares(), nil},
	} {
		for early := range len(c.want) + 1 {
			want := c.want
			if early > 0 {
				want = want[:early]
			}
			if got := pairs(c.l, early); !slices.Equal(got, want) {
				t.Error(name, early, got)
			}
		}
	}
}

// The least quotient makes the lower end, the greatest one the higher end, wherever they stand.
func TestOutward(t *testing.T) {
	for _, c := range []struct {
		l      [][2]int
		lo, hi int
	}{
		{[][2]int{{5, 2}}, 2, 3},
		{[][2]int{{5, -2}}, -3, -2},
		{[][2]int{{6, 2}}, 3, 3},
		{[][2]int{{5, 2}, {-5, 2}}, -3, 3},
		{[][2]int{{-5, 2}, {5, 2}}, -3, 3},
		{[][2]int{{7, 2}, {7, 5}}, 1, 4},
		{[][2]int{{7, 5}, {7, 2}}, 1, 4},
		{[][2]int{{1, 4}, {-9, 4}, {7, 3}, {2, 1}}, -3, 3},
		{[][2]int{{math.MaxInt, 1}, {math.MinInt, 1}}, math.MinInt, math.MaxInt},
	} {
		if lo, hi := outward(fractions(c.l...)); lo != c.lo || hi != c.hi {
			t.Error(c.l, lo, hi)
		}
	}
}

// A quotient that there is not, or that is no int, leaves the work.
func TestOutwardRefuses(t *testing.T) {
	above, _ := wide.Add(wide.Of(math.MaxInt), wide.Of(1))
	below, _ := wide.Sub(wide.Of(math.MinInt), wide.Of(1))
	for _, p := range [][2]api.Wide{{wide.Of(1), {}}, {above, wide.Of(1)}, {below, wide.Of(1)}, {above, wide.Of(-1)}, {below, wide.Of(-1)}} {
		for _, l := range [][][2]api.Wide{{p}, {{wide.Of(1), wide.Of(1)}, p}} {
			a := told(func() api.Ival {
				return ival.Make(outward(func(yield func(n, d api.Wide) bool) {
					for _, f := range l {
						if !yield(f[0], f[1]) {
							return
						}
					}
				}))
			})
			if a != bad {
				t.Error(l, a)
			}
		}
	}
}

// How far from 0 numbers are; just where 0 is one of them, the nearest one is 0.
func TestSizes(t *testing.T) {
	for _, c := range []struct{ lo, hi, near, far int }{
		{0, 0, 0, 0},
		{2, 5, 2, 5},
		{-5, -2, 2, 5},
		{-5, 2, 0, 5},
		{-2, 5, 0, 5},
		{0, 5, 0, 5},
		{-5, 0, 0, 5},
		{-1, -1, 1, 1},
		{1, 1, 1, 1},
		{-api.MaxIval, api.MaxIval, 0, api.MaxIval},
	} {
		if near, far := sizes(api.Ival{Lo: c.lo, Hi: c.hi}); near != c.near || far != c.far {
			t.Error(c, near, far)
		}
	}
}

// Work that is left tells the bad one; work that ends tells what it comes to, that which may not be too.
func TestTold(t *testing.T) {
	if a := told(func() api.Ival { refuse(true); return ival.Of(1) }); a != bad {
		t.Error(a)
	}
	for _, want := range []api.Ival{{}, {Lo: 1, Hi: 2}, {Lo: 2, Hi: 1}, bad} {
		if a := told(func() api.Ival { refuse(false); return want }); a != want {
			t.Error(a, want)
		}
	}
}

// Ends are asked for just where all intervals may be; what they tell is put in order.
func TestOf(t *testing.T) {
	asked := 0
	ends := func(lo, hi int) func() (int, int) {
		return func() (int, int) {
			asked++
			return lo, hi
		}
	}
	good := api.Ival{Lo: 1, Hi: 2}
	for _, c := range []struct {
		lo, hi int
		l      []api.Ival
		want   api.Ival
		asked  int
	}{
		{3, 4, []api.Ival{good, good}, api.Ival{Lo: 3, Hi: 4}, 1},
		{3, 4, []api.Ival{good, bad}, bad, 0},
		{3, 4, []api.Ival{{Lo: 2, Hi: 1}, good}, bad, 0},
		{3, api.MaxIval, []api.Ival{good}, api.Ival{Lo: 3, Hi: api.MaxIval}, 1},
		{3, api.MaxIval + 1, []api.Ival{good}, bad, 1},
		{-api.MaxIval - 1, 3, []api.Ival{good}, bad, 1},
	} {
		asked = 0
		if a := of(ends(c.lo, c.hi), c.l...); a != c.want || asked != c.asked {
			t.Error(c, a, asked)
		}
	}
}
