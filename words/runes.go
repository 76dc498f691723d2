package words

import (
	"iter"
	"unicode/utf8"

	"gyre/api"
)

// kind is what a rune is in a text.
type kind uint8

const (
	plain  kind = iota // one of a word's
	blank              // between words
	barred             // may not stand
)

// runeKinds holds the runes that are told one by one. It is made by each call that asks it: no map stands at package level.
func runeKinds() map[rune]kind {
	return map[rune]kind{
		0x0020: blank,
		0x0009: blank,
		0x000a: blank,
		0x00a0: blank,
		0x3000: blank,
		0x007f: barred,
		// Range over a string tells a bad rune as this one, too: neither may stand.
		utf8.RuneError: barred,
	}
}

// kindOf asks the map first, because blanks below U+0020 may stand.
func kindOf(kinds map[rune]kind, c rune) kind {
	k, told := kinds[c]
	if !told && c < 0x0020 {
		return barred
	}
	return k
}

// wordsOf tells the words of a text in which every rune may stand.
func wordsOf(text string, kinds map[rune]kind) iter.Seq[api.Word] {
	return func(yield func(api.Word) bool) {
		at, begin, inside := 0, 0, false
		n := 0
		for i, c := range text {
			isBlank := kindOf(kinds, c) == blank
			switch {
			case inside && isBlank:
				inside = false
				if !yield(api.Word{At: at, Text: text[begin:i]}) {
					return
				}
			case !inside && !isBlank:
				at, begin, inside = n, i, true
			}
			n++
		}
		if inside {
			yield(api.Word{At: at, Text: text[begin:]})
		}
	}
}

// markKind is what a rune is in a number's text.
type markKind uint8

const (
	none markKind = iota
	digit
	minus
)

// mark is a rune of a number's text; worth is a digit's alone.
type mark struct {
	kind  markKind
	worth uint64
}

const (
	mostDigits = 20
	mostSize   = 1 << 60
)

// runeMarks holds all runes of which numbers' texts are made.
func runeMarks() map[rune]mark {
	marks := map[rune]mark{
		0x002d: {kind: minus},
		0x2212: {kind: minus},
	}
	for d := range 10 {
		m := mark{kind: digit, worth: uint64(d)}
		marks[0x0030+rune(d)] = m
		marks[0xff10+rune(d)] = m
	}
	return marks
}

// longer puts a digit behind a number. One that is above mostSize stays as it is: it is too great whatever comes behind it, and 20 digits would not fit in 64 bits.
func longer(size, worth uint64) uint64 {
	if size > mostSize {
		return size
	}
	return size*10 + worth
}
