package coef

import (
	"iter"

	"gyre/api"
)

// whole is 1, in millionths.
const whole = 1000000

// parts are those of each method, in millionths.
var parts = [api.Methods][]int{
	api.Leapfrog: {1000000},
	api.Three:    {1351207, -1702414, 1351207},
	api.Seven:    {784514, 235573, -1177680, 1315186, -1177680, 235573, 784514},
	api.Fifteen: {
		741670, -409101, 190755, -573862, 299064, 334625, 315293, -796888,
		315293, 334625, 299064, -573862, 190755, -409101, 741670,
	},
	api.Turning: {},
}

// turning are the operations of the method that is made of turns.
var turning = [...]api.Op{
	{Kind: api.OpDrift, N: 1, D: 4}, {Kind: api.OpLift, N: -8, D: 17}, {Kind: api.OpDrift, N: 1, D: 4},
	{Kind: api.OpKick, N: 1, D: 1},
	{Kind: api.OpDrift, N: 1, D: 4}, {Kind: api.OpLift, N: -8, D: 17}, {Kind: api.OpDrift, N: 1, D: 4},
}

var names = [api.Methods]string{
	api.Leapfrog: "leapfrog",
	api.Three:    "three",
	api.Seven:    "seven",
	api.Fifteen:  "fifteen",
	api.Turning:  "turning",
}

// is tells whether a number is that of a method.
func is(method int) bool {
	return within(method, 0, api.Methods-1)
}

// weights tells a method's parts, in order.
func weights(method int) iter.Seq[int] {
	return func(yield func(int) bool) {
		for _, w := range parts[method] {
			if !yield(w) {
				return
			}
		}
	}
}

// step tells the operations of a method's step, in order.
func step(method int) iter.Seq[api.Op] {
	if method == api.Turning {
		return turns()
	}
	return func(yield func(api.Op) bool) {
		for w := range weights(method) {
			half := api.Op{Kind: api.OpDrift, N: w, D: 2 * whole}
			for o := range forward(half, api.Op{Kind: api.OpKick, N: w, D: whole}, half) {
				if !yield(o) {
					return
				}
			}
		}
	}
}

// turns tells the operations of a step that is made of them.
func turns() iter.Seq[api.Op] {
	return func(yield func(api.Op) bool) {
		for _, o := range turning {
			if !yield(o) {
				return
			}
		}
	}
}
