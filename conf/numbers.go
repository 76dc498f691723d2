package conf

import (
	"iter"

	"gyre/api"
)

const (
	// ahead and behind are how many numbers of a row stand ahead of the masses, and behind them.
	ahead  = 1
	behind = 5
)

// long is how many numbers the row of so many masses has.
func long(n int) int {
	return ahead + n + behind
}

// numbers tells a configuration's row, number by number.
func numbers(c api.Conf) iter.Seq[int] {
	return func(yield func(int) bool) {
		if !yield(len(c.Mass)) {
			return
		}
		for m := range masses(c) {
			if !yield(m) {
				return
			}
		}
		for _, n := range others(c) {
			if !yield(n) {
				return
			}
		}
	}
}

// masses tells those, in order.
func masses(c api.Conf) iter.Seq[int] {
	return func(yield func(int) bool) {
		for _, m := range c.Mass {
			if !yield(m) {
				return
			}
		}
	}
}

// others tells the numbers of a row that stand behind the masses.
func others(c api.Conf) [behind]int {
	return [behind]int{c.G, c.Box, c.Top, c.Near, c.Method}
}

// read tells the configuration of a row that is as long as its first number says.
func read(l []int) api.Conf {
	n := ahead + l[0]
	c := api.Conf{Mass: append([]int(nil), l[ahead:n]...)}
	c.G, c.Box, c.Top, c.Near, c.Method = l[n], l[n+1], l[n+2], l[n+3], l[n+4]
	return c
}
