package root

import (
	"iter"
	"math/bits"

	"gyre/api"
	"gyre/quot"
	"gyre/wide"
)

// told is what work comes to; if work is left by an error, that error, and nought.
func told[T any](work func() T) (r T, e api.Errno) {
	defer func() {
		if left := recover(); left != nil {
			// Nothing but an Errno is ever thrown here.
			e = left.(api.Errno)
		}
	}()
	return work(), api.OK
}

// extraction is a root, and how far its square is below the number.
type extraction struct{ root, left api.Wide }

func (x extraction) exact() bool { return x.left == api.Wide{} }

// extract finds the root bit by bit. At the bit 2^k, root stands for the bits found, times 2^(k+1): with the bit's own square behind them that is what the square would grow by, so nothing is multiplied, and nothing is over.
func extract(a api.Wide) extraction {
	refuseBelow(a)
	x := extraction{left: a}
	for k := range bitsOfRoot(a) {
		left, _ := wide.Sub(x.left, withBit(x.root, 2*k))
		x.root = halved(x.root)
		if wide.Sign(left) >= 0 {
			x.root, x.left = withBit(x.root, 2*k), left
		}
	}
	return x
}

func refuseBelow(a api.Wide) {
	if wide.Sign(a) < 0 {
		panic(api.ErrArg)
	}
}

// bitsOfRoot tells the places of the bits that the root of a may have, the highest first.
func bitsOfRoot(a api.Wide) iter.Seq[int] {
	return func(yield func(int) bool) {
		for k := (length(a)+1)/2 - 1; k >= 0; k-- {
			if !yield(k) {
				return
			}
		}
	}
}

// length is how many bits a number has, without noughts ahead.
func length(a api.Wide) int {
	n := 0
	for i, w := range a {
		if w != 0 {
			n = 64*i + bits.Len64(w)
		}
	}
	return n
}

func withBit(a api.Wide, place int) api.Wide {
	a[place/64] |= 1 << (place % 64)
	return a
}

// halved is the floor of half a number that is not below 0.
func halved(a api.Wide) api.Wide {
	return api.Wide{a[0]>>1 | a[1]<<63, a[1]>>1 | a[2]<<63, a[2]>>1 | a[3]<<63, a[3] >> 1}
}

func next(a api.Wide) api.Wide {
	a, _ = wide.Add(a, wide.Of(1))
	return a
}

// ofFraction takes the root of the floor: no whole number's square is above that and yet at most the fraction.
func ofFraction(a, b api.Wide) api.Wide {
	if b == (api.Wide{}) {
		panic(api.ErrZero)
	}
	refuseBelow(a)
	refuseBelow(b)
	q, _ := quot.Floor(a, b)
	return extract(q).root
}
