package ival

import (
	"iter"
	"math"
	"slices"
	"testing"

	"gyre/api"
	"gyre/wide"
)

func wides(l ...int) iter.Seq[api.Wide] {
	return func(yield func(api.Wide) bool) {
		for _, n := range l {
			if !yield(wide.Of(n)) {
				return
			}
		}
	}
}

// Whoever goes over the products may leave at each of them, and go over them again.
func TestProducts(t *testing.T) {
	l := products(api.Ival{Lo: -2, Hi: 3}, 5, -7)
	want := slices.Collect(wides(-10, 15, 14, -21))
	for early := range want {
		var got []api.Wide
		for p := range l {
			got = append(got, p)
			if len(got) > early {
				break
			}
		}
		if !slices.Equal(got, want[:early+1]) {
			t.Error(early, got)
		}
	}
	if got := slices.Collect(l); !slices.Equal(got, want) {
		t.Error(got)
	}
}

// The least product makes the lower end, the greatest one the higher end, wherever they stand.
func TestOutward(t *testing.T) {
	for _, c := range []struct {
		l          []int
		by, lo, hi int
	}{
		{[]int{5}, 2, 2, 3},
		{[]int{-5}, 2, -3, -2},
		{[]int{6}, 2, 3, 3},
		{[]int{-5, 5}, 2, -3, 3},
		{[]int{5, -5}, 2, -3, 3},
		{[]int{1, 7, -9, 2}, 4, -3, 2},
		{[]int{1, 7, 9, 2}, 4, 0, 3},
		{[]int{-4, -8, -5, -6}, 4, -2, -1},
		{[]int{math.MinInt, math.MaxInt}, 1, math.MinInt, math.MaxInt},
	} {
		if lo, hi := outward(wides(c.l...), wide.Of(c.by)); lo != c.lo || hi != c.hi {
			t.Error(c.l, c.by, lo, hi)
		}
	}
}

// An end that is no int makes no interval that may be.
func TestEnd(t *testing.T) {
	for _, n := range []int{0, 1, -1, api.MaxIval, -api.MaxIval, math.MaxInt, math.MinInt} {
		if got := end(wide.Of(n)); got != n {
			t.Error(n, got)
		}
	}
	above, _ := wide.Add(wide.Of(math.MaxInt), wide.Of(1))
	below, _ := wide.Sub(wide.Of(math.MinInt), wide.Of(1))
	for _, a := range []api.Wide{above, below} {
		if n := end(a); Fine(api.Ival{Lo: n, Hi: n}) {
			t.Error(a, n)
		}
	}
}

// Ends are asked for just where all intervals may be; what they tell must be in order.
func TestOfEnds(t *testing.T) {
	asked := 0
	ends := func(lo, hi int) func() (int, int) {
		return func() (int, int) {
			asked++
			return lo, hi
		}
	}
	good := api.Ival{Lo: 1, Hi: 2}
	if a := of(ends(3, 4), good, good); a != (api.Ival{Lo: 3, Hi: 4}) || asked != 1 {
		t.Error(a, asked)
	}
	if a := of(ends(4, 3), good); a != bad() || asked != 2 {
		t.Error(a, asked)
	}
	if a := of(ends(3, 4), good, bad()); a != bad() || asked != 2 {
		t.Error(a, asked)
	}
}
