package drift

import (
	"iter"

	"gyre/api"
)

const (
	// most is how great the numbers of a part may be.
	most = 1 << 21
	// fastest is how great what is to be drifted may be: by no part a number beyond 2^51 comes of it.
	fastest = 1 << 30
)

// bodies tells those of a state with their places in it.
func bodies(s api.State) iter.Seq2[int, api.Body] {
	return func(yield func(int, api.Body) bool) {
		for i, b := range s.B {
			if !yield(i, b) {
				return
			}
		}
	}
}

// by tells drifts, all by the same part.
func by(n, d int) func(v api.Vec) (api.Vec, api.Errno) {
	return func(v api.Vec) (api.Vec, api.Errno) {
		var r api.Vec
		for i, x := range v {
			w, e := One(x, n, d)
			if e != api.OK {
				return api.Vec{}, e
			}
			r[i] = w
		}
		return r, api.OK
	}
}

func within(n, least, most int) bool {
	return least <= n && n <= most
}
