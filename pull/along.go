package pull

import (
	"iter"

	"gyre/api"
	"gyre/root"
	"gyre/wide"
)

// coordinates tells those of a way, with their places.
func coordinates(dx api.Vec) iter.Seq2[int, int] {
	return func(yield func(i, x int) bool) {
		for i, x := range dx {
			if !yield(i, x) {
				return
			}
		}
	}
}

// squareOf is r^2 of a way.
func squareOf(dx api.Vec) int {
	sum := 0
	for _, x := range coordinates(dx) {
		refuseBeyond(coordinate, x)
		sum += x * x
	}
	return sum
}

// along is the pull along a coordinate. The square of the real one's double is a fraction of whole numbers: the nearest to half of its root is the pull without its sign.
func along(n, d, g, m, x, square int) int {
	refuse(n, d, g, m, x, square)
	a := double(n, g, m)
	half, _ := root.Half(product(a, a, x, x), product(d*d, square, square, square))
	// No coordinate is longer than its way, so no pull is above 2^51.
	k, _ := wide.Int(half)
	if (n < 0) != (x < 0) {
		return -k
	}
	return k
}

// below tells whether the real pull is below a half along each coordinate: the longest one that there may be is as long as its way.
func below(n, d, g, m, square int) bool {
	refuse(n, d, g, m, 0, square)
	a := double(n, g, m)
	return wide.Cmp(product(a, a), product(d*d, square, square)) < 0
}

// double is twice the product of three; by their limits that is at most 2^52.
func double(n, g, m int) int {
	return 2 * n * g * m
}

// product is that of all of them. None that is asked for here has more than 200 bits.
func product(l ...int) api.Wide {
	p := wide.Of(1)
	for _, n := range l {
		p, _ = wide.Mul(p, wide.Of(n))
	}
	return p
}
