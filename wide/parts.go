package wide

import (
	"iter"
	"math/bits"

	"gyre/api"
)

const topBit = 1 << 63

// signed are the kinds of numbers whose sign goes on through all words.
type signed interface{ int | int32 }

func ofSigned[T signed](n T) api.Wide {
	sign := uint64(int64(n) >> 63)
	return api.Wide{uint64(n), sign, sign, sign}
}

// wordsOf tells the words of a number with their places, the lowest first.
func wordsOf(a api.Wide) iter.Seq2[int, uint64] {
	return func(yield func(int, uint64) bool) {
		for i, w := range a {
			if !yield(i, w) {
				return
			}
		}
	}
}

func below(a api.Wide) bool { return a[3]&topBit != 0 }

// lifted is 2^255 above, by rest: as words alone, without a sign, lifted numbers stand in the order of the numbers.
func lifted(a api.Wide) api.Wide {
	a[3] ^= topBit
	return a
}

// size is how far from 0 a number is, told without a sign: so that of -2^255 fits, too.
func size(a api.Wide) api.Wide {
	if below(a) {
		a, _ = Neg(a)
	}
	return a
}

// product is a times b, all three without a sign; high is how many times 2^256 is in it.
func product(a, b api.Wide) (low, high api.Wide) {
	var p [8]uint64
	for i, v := range wordsOf(a) {
		var carry uint64
		for k, w := range wordsOf(b) {
			p[i+k], carry = wordProduct(v, w, p[i+k], carry)
		}
		p[i+4] = carry
	}
	return api.Wide{p[0], p[1], p[2], p[3]}, api.Wide{p[4], p[5], p[6], p[7]}
}

// wordProduct is v times w, and two more words; that is at most 2^128 - 1, so two words hold it.
func wordProduct(v, w, more, carry uint64) (low, high uint64) {
	high, low = bits.Mul64(v, w)
	low, c := bits.Add64(low, more, 0)
	high += c
	low, c = bits.Add64(low, carry, 0)
	return low, high + c
}

// mostDigits bounds a text's digits, noughts ahead counted.
const mostDigits = 78

// ofText gathers the number below 0, whichever its sign, because -2^255 has no counterpart above.
func ofText(text string) (api.Wide, api.Errno) {
	var a api.Wide
	digits, minus, over := 0, false, false
	for i, c := range text {
		switch {
		case c == '-' && i == 0:
			minus = true
		case c >= '0' && c <= '9' && digits < mostDigits && !over:
			digits++
			a, over = lower(a, int(c-'0'))
		default:
			return api.Wide{}, api.ErrArg
		}
	}
	if !minus && !over {
		a, over = Neg(a)
	}
	if digits == 0 || over {
		return api.Wide{}, api.ErrArg
	}
	return a, api.OK
}

// lower puts a digit behind a number that is not above 0.
func lower(a api.Wide, digit int) (api.Wide, bool) {
	tens, over := Mul(a, Of(10))
	r, o := Sub(tens, Of(digit))
	return r, over || o
}
