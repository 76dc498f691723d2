package conf

import "gyre/api"

// things is how many are to be so.
const things = 7

// names tells what is to be so, in order.
func names() [things]string {
	return [things]string{"bodies", "mass", "constant", "box", "top", "near", "method"}
}

// laws tells by name whether each is so. They are asked in order: a law may lean on those ahead of it.
func laws(c api.Conf) map[string]func() bool {
	return map[string]func() bool{
		"bodies":   func() bool { return may(len(c.Mass)) },
		"mass":     func() bool { return light(c) },
		"constant": func() bool { return within(c.G, 1, api.MaxG) },
		"box":      func() bool { return within(c.Box, 1, api.MaxBox) },
		"top":      func() bool { return within(c.Top, 1, api.MaxTop) },
		"near":     func() bool { return within(c.Near, 1, 2*c.Box) },
		"method":   func() bool { return within(c.Method, 0, api.Methods-1) },
	}
}

// may tells whether there may be so many masses.
func may(n int) bool {
	return within(n, 1, api.MaxBodies)
}

// light tells whether each mass may be.
func light(c api.Conf) bool {
	for m := range masses(c) {
		if !within(m, 1, api.MaxMass) {
			return false
		}
	}
	return true
}

func within(n, least, most int) bool {
	return least <= n && n <= most
}
