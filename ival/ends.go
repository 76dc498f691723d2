package ival

import (
	"iter"
	"math"
	"slices"

	"gyre/api"
	"gyre/quot"
	"gyre/wide"
)

func bad() api.Ival { return api.Ival{Bad: true} }

// between is the bad one, too, where the ends are not in order.
func between(lo, hi int) api.Ival {
	if a := (api.Ival{Lo: lo, Hi: hi}); Fine(a) {
		return a
	}
	return bad()
}

// of asks for the ends where all intervals that they come of may be: sums of such ends are ints.
func of(ends func() (lo, hi int), l ...api.Ival) api.Ival {
	if !Fine(l...) {
		return bad()
	}
	return between(ends())
}

// products tells each end of a times each of the numbers; no product of two ints is over.
func products(a api.Ival, times ...int) iter.Seq[api.Wide] {
	return func(yield func(api.Wide) bool) {
		for _, n := range times {
			lo, _ := wide.Mul(wide.Of(a.Lo), wide.Of(n))
			hi, _ := wide.Mul(wide.Of(a.Hi), wide.Of(n))
			if !yield(lo) || !yield(hi) {
				return
			}
		}
	}
}

// outward divides by a number above 0, so that the least product has the least quotient.
func outward(products iter.Seq[api.Wide], by api.Wide) (lo, hi int) {
	l := slices.Collect(products)
	low, _ := quot.Floor(slices.MinFunc(l, wide.Cmp), by)
	high, _ := quot.Ceil(slices.MaxFunc(l, wide.Cmp), by)
	return end(low), end(high)
}

// end tells the greatest int for what is no int: that is beyond MaxIval, too.
func end(a api.Wide) int {
	if n, is := wide.Int(a); is {
		return n
	}
	return math.MaxInt
}
