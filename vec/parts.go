package vec

import (
	"iter"

	"gyre/api"
)

// farthest is how far from 0 the parts of a point that may be are, at most.
const farthest = 1 << 29

// parts tells the parts of a point with their places.
func parts(a api.Vec) iter.Seq2[int, int] {
	return func(yield func(i, x int) bool) {
		for i, x := range a {
			if !yield(i, x) {
				return
			}
		}
	}
}

// each is made of what is told of each part of a and its place.
func each(a api.Vec, tell func(i, x int) int) [3]int {
	var r [3]int
	for i, x := range parts(a) {
		r[i] = tell(i, x)
	}
	return r
}

// sum is that of what is told of each part of a and its place.
func sum(a api.Vec, tell func(i, x int) int) int {
	s := 0
	for i, x := range parts(a) {
		s += tell(i, x)
	}
	return s
}

// bounded is the number from -most to most that is nearest to x; most is not below 0.
func bounded(x, most int) int {
	return max(-most, min(x, most))
}

// fine tells what came of points, if they and it may be. Of points that may not be it may have gone round.
func fine(r api.Vec, of ...api.Vec) (api.Vec, api.Errno) {
	if !Fine(of...) || !Fine(r) {
		return api.Vec{}, api.ErrOver
	}
	return r, api.OK
}
