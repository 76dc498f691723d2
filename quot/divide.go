package quot

import (
	"iter"
	"math"
	"math/bits"

	"gyre/api"
	"gyre/wide"
)

// told is what work comes to; if work is left by an error, that error, and nought.
func told[T any](work func() T) (r T, e api.Errno) {
	defer func() {
		if left := recover(); left != nil {
			// Nothing but an Errno is ever thrown here.
			e = left.(api.Errno)
		}
	}()
	return work(), api.OK
}

// mostShift is the greatest n of which 2^n is a wide number.
const mostShift = 254

func power(n int) (a api.Wide) {
	if n < 0 || n > mostShift {
		panic(api.ErrArg)
	}
	a[n/64] = 1 << (n % 64)
	return a
}

// division is how far a is from 0 by how far b is: how many times, and what is left. Only below tells of signs: a / b is below 0.
type division struct {
	times, left, by api.Wide
	below           bool
}

func divide(a, b api.Wide) division {
	least := api.Wide{0, 0, 0, 1 << 63}
	if b == (api.Wide{}) {
		panic(api.ErrZero)
	}
	if a == least || b == least {
		panic(api.ErrOver)
	}
	by := size(b)
	times, left := divideSizes(size(a), by)
	return division{times, left, by, wide.Sign(a)*wide.Sign(b) < 0}
}

func size(a api.Wide) api.Wide {
	if wide.Sign(a) < 0 {
		a, _ = wide.Neg(a)
	}
	return a
}

// whole is one of the two whole numbers about the quotient; nothing here is over: where something is left, b is at least 2 from 0.
func (d division) whole(farther bool) api.Wide {
	q := d.times
	if farther {
		q, _ = wide.Add(q, wide.Of(1))
	}
	if d.below {
		q, _ = wide.Neg(q)
	}
	return q
}

func (d division) exact() bool { return d.left == api.Wide{} }

func (d division) floor() api.Wide { return d.whole(d.below && !d.exact()) }

func (d division) ceil() api.Wide { return d.whole(!d.below && !d.exact()) }

func (d division) near() api.Wide {
	// What is left is held against what is missing, because its double may be over.
	missing, _ := wide.Sub(d.by, d.left)
	return d.whole(wide.Cmp(d.left, missing) >= 0)
}

// divideSizes divides by b, which is not 0, without signs, digit by digit to the base 2^64.
func divideSizes(a, b api.Wide) (times, left api.Wide) {
	n := length(b)
	// With b's highest bit at the top of its word the digits are guessed well.
	shift := bits.LeadingZeros64(b[n-1])
	u, v := lifted(a, shift), lifted(b, shift)
	for i := range falling(len(a) - n) {
		times[i] = digit(u[i:i+n+1], v[:n])
	}
	return times, lowered(u, shift)
}

// falling tells places, the highest first.
func falling(from int) iter.Seq[int] {
	return func(yield func(int) bool) {
		for i := from; i >= 0; i-- {
			if !yield(i) {
				return
			}
		}
	}
}

// length is how many words a number has, without noughts ahead.
func length(a api.Wide) int {
	for i := range falling(len(a) - 1) {
		if a[i] != 0 {
			return i + 1
		}
	}
	return 0
}

// lifted is a times 2^shift, shift below 64; a fifth word takes what leaves the fourth.
func lifted(a api.Wide, shift int) (u [5]uint64) {
	for i, w := range a {
		u[i] |= w << shift
		u[i+1] = w >> (64 - shift)
	}
	return u
}

// lowered takes lifted back.
func lowered(u [5]uint64, shift int) (a api.Wide) {
	for i := range a {
		a[i] = u[i]>>shift | u[i+1]<<(64-shift)
	}
	return a
}

// digit takes v away from u as often as it goes, and tells how often. u has a word more than v and is below v times 2^64; v has its highest bit.
func digit(u, v []uint64) uint64 {
	n := len(v)
	q := guess(u[n], u[n-1], v[n-1])
	short := takeAway(u, v, q)
again:
	// By v's highest bit the guess is at most 2 too great.
	if short {
		q--
		short = !putBack(u, v)
		goto again
	}
	return q
}

// guess is never too small; high is at most by.
func guess(high, low, by uint64) uint64 {
	if high >= by {
		return math.MaxUint64
	}
	q, _ := bits.Div64(high, low, by)
	return q
}

// takeAway takes q times v from u, in place; yes, if u was too small for it and has gone round.
func takeAway(u, v []uint64, q uint64) bool {
	n := len(v)
	var carry, borrow uint64
	for i, w := range v {
		high, low := bits.Mul64(w, q)
		low, c := bits.Add64(low, carry, 0)
		carry = high + c
		u[i], borrow = bits.Sub64(u[i], low, borrow)
	}
	u[n], borrow = bits.Sub64(u[n], carry, borrow)
	return borrow != 0
}

// putBack gives u one v, in place; yes, if u has come round again.
func putBack(u, v []uint64) bool {
	n := len(v)
	var carry uint64
	for i, w := range v {
		u[i], carry = bits.Add64(u[i], w, carry)
	}
	u[n], carry = bits.Add64(u[n], 0, carry)
	return carry != 0
}
