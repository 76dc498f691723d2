package wave

import (
	"iter"

	"gyre/api"
	"gyre/ival"
)

// last is the place of the term that tells how much the sum of those ahead may be off.
const last = 13

// angles is where series are told: so near to 0 their terms are soon small enough.
func angles() api.Ival { return ival.Make(-4*api.One, 4*api.One) }

// sines tells the terms of a point's sine, each with its place.
func sines(n int) iter.Seq2[int, api.Ival] {
	return series(n, ival.Point(n), 2)
}

// cosines tells the terms of a point's cosine, each with its place.
func cosines(n int) iter.Seq2[int, api.Ival] {
	return series(n, ival.Of(1), 1)
}

// series goes on from a first term; d is the lesser one of the two numbers that the second term is divided by.
func series(n int, first api.Ival, d int) iter.Seq2[int, api.Ival] {
	q := ival.Mul(ival.Point(n), ival.Point(n))
	next := func(k int, t api.Ival) api.Ival {
		return ival.Part(ival.Mul(t, q), -1, (2*k+d)*(2*k+d+1))
	}
	return func(yield func(int, api.Ival) bool) {
		t := first
		for k := 0; k <= last && yield(k, t); k++ {
			t = next(k, t)
		}
	}
}

// of is what the terms of the middle come to: a sine and a cosine go on no faster than the angle does.
func of(a api.Ival, terms func(int) iter.Seq2[int, api.Ival]) api.Ival {
	m, reach, _ := Middle(a)
	if !ival.Holds(angles(), a) {
		goto none
	}
	return widened(enclosure(terms(m)), reach)
none:
	return api.Ival{Bad: true}
}

// enclosure is what a point's terms come to.
func enclosure(terms iter.Seq2[int, api.Ival]) api.Ival {
	sum, r := ival.Point(0), 0
	for k, t := range terms {
		if k < last {
			sum = ival.Add(sum, t)
		} else {
			r = max(t.Hi, -t.Lo)
		}
	}
	return widened(sum, r)
}

// widened goes no farther than a sine or a cosine may.
func widened(a api.Ival, by int) api.Ival {
	return ival.Meet(ival.Add(a, ival.Make(-by, by)), ival.Make(-api.One, api.One))
}
