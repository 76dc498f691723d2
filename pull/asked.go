package pull

import "gyre/api"

const (
	// most is how great the numbers of a part may be.
	most = 1 << 21
	// farthest is how far a coordinate of a way may go, either way: from one end of the box to the other one.
	farthest = 2 * api.MaxBox
)

// limit is between which numbers something is.
type limit struct{ least, most int }

// limits are those of what a pull is asked by, in the order in which it is handed in.
var limits = [...]limit{
	{-most, most},
	{1, most},
	{1, api.MaxG},
	{1, api.MaxMass},
	{-farthest, farthest},
	{0, 3 * farthest * farthest},
}

// coordinate and whole are the places of what is told of a way: one of its coordinates, and its square.
const (
	coordinate = 4
	whole      = 5
)

// told is what work comes to; if work is left by an error, that error, and nought.
func told[T any](work func() T) (r T, e api.Errno) {
	defer func() {
		if left := recover(); left != nil {
			// Nothing but an Errno is ever thrown here.
			e = left.(api.Errno)
		}
	}()
	return work(), api.OK
}

// refuse leaves by an error if a pull may not be asked by these numbers, one for each of the limits.
func refuse(asked ...int) {
	for i, n := range asked {
		refuseBeyond(i, n)
	}
	x, square := asked[coordinate], asked[whole]
	if square == 0 {
		panic(api.ErrZero)
	}
	if x*x > square {
		panic(api.ErrArg)
	}
}

// refuseBeyond leaves by an error if a number is not between the limits of a place.
func refuseBeyond(place, n int) {
	if n < limits[place].least || n > limits[place].most {
		panic(api.ErrArg)
	}
}
