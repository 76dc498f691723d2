package inv

import (
	"iter"
	"math"

	"gyre/api"
	"gyre/ival"
	"gyre/quot"
	"gyre/wide"
)

// told is what work comes to; if work is left by an interval, that one.
func told(work func() api.Ival) (a api.Ival) {
	defer func() {
		if left := recover(); left != nil {
			// Nothing but the bad one is ever thrown here.
			a = left.(api.Ival)
		}
	}()
	return work()
}

func refuse(is bool) {
	if is {
		panic(api.Ival{Bad: true})
	}
}

// of asks for the ends where all intervals that they come of may be.
func of(ends func() (lo, hi int), l ...api.Ival) api.Ival {
	return told(func() api.Ival {
		refuse(!ival.Fine(l...))
		return ival.Make(ends())
	})
}

// quotients tells each end of a, times One, and what it is to be divided by: each end of b.
func quotients(a, b api.Ival) iter.Seq2[api.Wide, api.Wide] {
	return func(yield func(n, d api.Wide) bool) {
		for _, x := range [...]int{a.Lo, a.Hi} {
			for _, y := range [...]int{b.Lo, b.Hi} {
				if !yield(product(x, api.One), wide.Of(y)) {
					return
				}
			}
		}
	}
}

// squares tells the square of each of the numbers, and One, by which it is to be divided.
func squares(l ...int) iter.Seq2[api.Wide, api.Wide] {
	return func(yield func(n, d api.Wide) bool) {
		for _, x := range l {
			if !yield(product(x, x), wide.Of(api.One)) {
				return
			}
		}
	}
}

// sizes tells how far from 0 the numbers of a are, the nearest one and the farthest one.
func sizes(a api.Ival) (near, far int) {
	// Just where a holds 0, neither a.Lo nor -a.Hi is above 0.
	return max(a.Lo, -a.Hi, 0), max(a.Hi, -a.Lo)
}

// outward tells the least floor and the greatest ceiling: they are those of the least quotient and of the greatest one.
func outward(quotients iter.Seq2[api.Wide, api.Wide]) (lo, hi int) {
	lo, hi = math.MaxInt, math.MinInt
	for n, d := range quotients {
		lo, hi = min(lo, whole(quot.Floor(n, d))), max(hi, whole(quot.Ceil(n, d)))
	}
	return lo, hi
}

// product of two ints is never over.
func product(x, y int) api.Wide {
	p, _ := wide.Mul(wide.Of(x), wide.Of(y))
	return p
}

// whole refuses what there is not, and what is no int: that is beyond MaxIval, too.
func whole(a api.Wide, e api.Errno) int {
	n, is := wide.Int(a)
	refuse(e != api.OK || !is)
	return n
}
