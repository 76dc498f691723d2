package coef

import (
	"iter"

	"gyre/api"
)

const (
	// most is how great the numbers of an operation may be.
	most = 1 << 21
	// mostAbove and mostBelow are how great those of a sum may be. By these no number on the way has more than 58 bits.
	mostAbove = 1 << 36
	mostBelow = 1 << 24
)

// forward tells operations in order.
func forward(l ...api.Op) iter.Seq[api.Op] {
	return func(yield func(api.Op) bool) {
		for _, o := range l {
			if !yield(o) {
				return
			}
		}
	}
}

// backward tells operations in reverse order.
func backward(l ...api.Op) iter.Seq[api.Op] {
	return func(yield func(api.Op) bool) {
		for i := len(l) - 1; i >= 0; i-- {
			if !yield(l[i]) {
				return
			}
		}
	}
}

// sum puts together one operation behind the other: it tells what they are in all up to this one, in lowest terms.
func sum() func(o api.Op) (n, d int) {
	n, d := 0, 1
	return func(o api.Op) (int, int) {
		n, d = lowest(n*o.D+o.N*d, d*o.D)
		return n, d
	}
}

// counts tells whether a sum's numbers may be so great.
func counts(n, d int) bool {
	return within(n, -mostAbove, mostAbove) && d <= mostBelow
}

// lowest is a fraction in lowest terms. Its d is above 0.
func lowest(n, d int) (int, int) {
	a, b := d, max(n, -n)
	for b != 0 {
		a, b = b, a%b
	}
	return n / a, d / a
}

func within(n, least, most int) bool {
	return least <= n && n <= most
}
