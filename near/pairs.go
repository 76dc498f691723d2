package near

import (
	"iter"

	"gyre/api"
	"gyre/conf"
	"gyre/state"
	"gyre/vec"
)

// pairs tells those of a state, in order: none, if it may not be.
func pairs(s api.State) iter.Seq[api.Pair] {
	return func(yield func(api.Pair) bool) {
		if !state.Right(s) {
			return
		}
		for i, a := range s.B {
			for j := i + 1; j < len(s.B); j++ {
				// In a state that may be no square is over.
				square, _ := vec.Far2(a.X, s.B[j].X)
				if !yield(api.Pair{I: i, J: j, Square: square}) {
					return
				}
			}
		}
	}
}

// below tells whether a pair is near in a configuration: none is, if that may not be.
func below(c api.Conf) func(api.Pair) bool {
	if conf.Check(c) != api.OK {
		return func(api.Pair) bool { return false }
	}
	square := c.Near * c.Near
	return func(p api.Pair) bool { return p.Square < square }
}

// moved is a state whose bodies have all gone on by as much; no, if one of them can't.
func moved(s api.State, by api.Vec) (api.State, bool) {
	m := state.Own(s)
	for i, b := range m.B {
		x, e := vec.Add(b.X, by)
		if e != api.OK {
			return api.State{}, false
		}
		m.B[i].X = x
	}
	return m, true
}
