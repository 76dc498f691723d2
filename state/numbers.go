package state

import (
	"iter"
	"slices"

	"gyre/api"
	"gyre/vec"
)

const (
	// ahead is how many numbers of a row stand ahead of the first body's.
	ahead = 2
	// perPoint and perBody are how many numbers of a row a point has, and a body.
	perPoint = 3
	perBody  = 2 * perPoint
)

// may tells whether a state may have so many bodies.
func may(n int) bool {
	return 1 <= n && n <= api.MaxBodies
}

// long is how many numbers the row of so many bodies has.
func long(bodies int) int {
	return ahead + perBody*bodies
}

// numbers tells a state's row, number by number.
func numbers(s api.State) iter.Seq[int] {
	return func(yield func(int) bool) {
		if !yield(s.Step) || !yield(len(s.B)) {
			return
		}
		for _, b := range s.B {
			for _, n := range numbersOf(b) {
				if !yield(n) {
					return
				}
			}
		}
	}
}

func numbersOf(b api.Body) [perBody]int {
	return [perBody]int{b.X[0], b.X[1], b.X[2], b.V[0], b.V[1], b.V[2]}
}

// bodies tells those whose numbers these are: so many each, with none left over.
func bodies(l []int) iter.Seq[api.Body] {
	return func(yield func(api.Body) bool) {
		for n := range slices.Chunk(l, perBody) {
			if !yield(api.Body{X: api.Vec(n[:perPoint]), V: api.Vec(n[perPoint:])}) {
				return
			}
		}
	}
}

// squares tells those of the ways between each two bodies: in a state that may be none of them is over.
func squares(l []api.Body) iter.Seq[int] {
	return func(yield func(int) bool) {
		for i, a := range l {
			for _, b := range l[i+1:] {
				n, _ := vec.Far2(a.X, b.X)
				if !yield(n) {
					return
				}
			}
		}
	}
}
