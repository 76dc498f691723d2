// Package words is layer 1: see shared/doc/01-words.md.
package words

import (
	"strconv"
	"strings"

	"gyre/api"
)

// Split: P1.2.
func Split(text string) (l []api.Word, at int, e api.Errno) {
	kinds := runeKinds()
	n := 0
	for _, c := range text {
		if kindOf(kinds, c) == barred {
			return nil, n, api.ErrRune
		}
		n++
	}
	for w := range wordsOf(text, kinds) {
		l = append(l, w)
	}
	return l, n, api.OK
}

// Count: P1.1.
func Count(text string) int {
	n := 0
	for range text {
		n++
	}
	return n
}

// Number: P1.3.
func Number(word string) (int, api.Errno) {
	marks := runeMarks()
	var size uint64
	digits, below := 0, false
	for i, c := range word {
		m := marks[c]
		switch {
		case m.kind == minus && i == 0:
			below = true
		case m.kind == digit && digits < mostDigits:
			digits++
			size = longer(size, m.worth)
		default:
			return 0, api.ErrForm
		}
	}
	switch {
	case digits == 0:
		return 0, api.ErrForm
	case size > mostSize:
		return 0, api.ErrOver
	case below:
		return -int(size), api.OK
	}
	return int(size), api.OK
}

// Put: P1.4.
func Put(n int) string { return strconv.Itoa(n) }

// Join: P1.4.
func Join(l ...string) string { return strings.Join(l, " ") }

// Blank: P1.1.
func Blank(c rune) bool { return kindOf(runeKinds(), c) == blank }
