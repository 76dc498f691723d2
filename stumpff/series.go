package stumpff

import (
	"iter"

	"gyre/api"
	"gyre/ival"
)

const (
	// last is the place of the term that tells how much the sum of those ahead may be off.
	last = 14
	// steepest is no less than what any of the four changes by, where x changes by 1.
	steepest = 4
	// greatest is the greatest number whose factorial is an int.
	greatest = 20
)

func bad() api.Ival { return api.Ival{Bad: true} }

// numbers is where series are told: so near to 0 the terms behind the last one soon come to nothing.
func numbers() api.Ival { return ival.Make(-16*api.One, 16*api.One) }

// four tells of each k what tells the terms of a point, each with its place.
func four() [4]func(p int) iter.Seq2[int, api.Ival] {
	var l [4]func(p int) iter.Seq2[int, api.Ival]
	for k := range l {
		d, _ := Factorial(k)
		l[k] = func(p int) iter.Seq2[int, api.Ival] {
			next := func(n int, u api.Ival) api.Ival {
				return ival.Part(ival.Mul(u, ival.Point(p)), -1, (k+2*n+1)*(k+2*n+2))
			}
			return series(ival.Part(ival.Of(1), 1, d), next)
		}
	}
	return l
}

// series goes on from a first term, by what tells of a place and its term the one behind.
func series(first api.Ival, next func(n int, u api.Ival) api.Ival) iter.Seq2[int, api.Ival] {
	return func(yield func(int, api.Ival) bool) {
		u := first
		for n := 0; n <= last && yield(n, u); n++ {
			u = next(n, u)
		}
	}
}

// enclosure is what a point's terms come to.
func enclosure(terms iter.Seq2[int, api.Ival]) api.Ival {
	sum, r := ival.Point(0), 0
	for n, u := range terms {
		if n < last {
			sum = ival.Add(sum, u)
		} else {
			// Each term behind is less than half of the one ahead: all of them come to less than this one again.
			r = 2 * max(u.Hi, -u.Lo)
		}
	}
	return widened(sum, r)
}

func widened(a api.Ival, by int) api.Ival {
	return ival.Add(a, ival.Make(-by, by))
}

// is tells whether there is a series of k.
func is(k int) bool {
	return k >= 0 && k < len(four())
}
