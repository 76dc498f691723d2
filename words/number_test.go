package words_test

import (
	"math"
	"math/big"
	"strings"
	"testing"

	"gyre/api"
	"gyre/words"
)

const most = 1 << 60

// P1.3: what is a number's text, and which number it is.
func TestNumber(t *testing.T) {
	for _, c := range []struct {
		word string
		n    int
	}{
		{"0", 0},
		{"-0", 0},
		{"\u22120", 0},
		{"7", 7},
		{"-7", -7},
		{"\u22127", -7},
		{"0123456789", 123456789},
		{"\uff10\uff11\uff12\uff13\uff14\uff15\uff16\uff17\uff18\uff19", 123456789},
		{"1\uff12", 12},
		{"\uff112", 12},
		{"-\uff11\uff12", -12},
		{"\u22121\uff12", -12},
		{"00000000000000000000", 0},
		{"-00000000000000000000", 0},
		{"00000000000000000001", 1},
		{"\u221200000000000000000001", -1},
		{"01152921504606846976", most},
		{"1152921504606846975", most - 1},
		{"1152921504606846976", most},
		{"-1152921504606846976", -most},
		{"\u2212\uff11152921504606846976", -most},
	} {
		if n, e := words.Number(c.word); n != c.n || e != api.OK {
			t.Errorf("Number(%q) = %d, %d", c.word, n, e)
		}
	}
}

// P1.3: no number's text: ErrForm, and 0.
func TestNumberOfNoForm(t *testing.T) {
	for _, word := range []string{
		"", "-", "\u2212", "--1", "-\u22121", "\u2212-1", "\u2212\u22121", "1-", "1-2", "1\u2212",
		"+1", " 1", "1 ", "1 2", "1\u00a0", "\u30001", "1.0", "0x1", "1e3", "1_000", "a", "1a", "a1",
		"/", ":", "\uff0f", "\uff1a", "\uff0d1", "\u20101", "\u20131", "\u0661", "\u00b2",
		"\xff", "1\xff", "\xff1", "-\xff", "\ufffd", "1\x00", "\xef\xbc", "1\xef\xbc", "\xe2\x88",
		"000000000000000000000", "000000000000000000001", "-000000000000000000001",
		"999999999999999999999", "\u2212999999999999999999999",
		strings.Repeat("\uff11", 21), strings.Repeat("9", 100000), strings.Repeat("-", 100000),
	} {
		if n, e := words.Number(word); n != 0 || e != api.ErrForm {
			t.Errorf("Number(%q) = %d, %d", word, n, e)
		}
	}
}

// P1.3: beyond 2^60 either way: ErrOver, and 0; what does not fit in 64 bits is not taken for what is left of it.
func TestNumberOver(t *testing.T) {
	for _, word := range []string{
		"1152921504606846977", "-1152921504606846977", "\u22121152921504606846977", "01152921504606846977",
		"\uff11\uff11\uff15\uff12\uff19\uff12\uff11\uff15\uff10\uff14\uff16\uff10\uff16\uff18\uff14\uff16\uff19\uff17\uff17",
		"9223372036854775807", "9223372036854775808", "-9223372036854775808", "-9223372036854775809",
		"11529215046068469760", "11529215046068469769", "11529215046068469770",
		"18446744073709551615", "18446744073709551616", "18446744073709551617", "-18446744073709551617",
		"36893488147419103233", "99999999999999999999", "-99999999999999999999",
		strings.Repeat("\uff19", 20),
	} {
		if n, e := words.Number(word); n != 0 || e != api.ErrOver {
			t.Errorf("Number(%q) = %d, %d", word, n, e)
		}
	}
}

// R2: a word that is no number's text and too great is told as the first of both.
func TestNumberFormGoesAhead(t *testing.T) {
	for _, word := range []string{"99999999999999999999x", "-99999999999999999999-", "x99999999999999999999", "9999999999999999999\xff"} {
		if n, e := words.Number(word); n != 0 || e != api.ErrForm {
			t.Errorf("Number(%q) = %d, %d", word, n, e)
		}
	}
}

// P1.3: of all lengths up to 20 and one beyond, held against the library's great numbers.
func TestNumberOfManyDigits(t *testing.T) {
	seed := uint32(7)
	for round := range 4000 {
		word := ""
		for range 1 + round%21 {
			seed = seed*1664525 + 1013904223
			word += string(rune('0' + (seed>>16)%10))
		}
		is, _ := new(big.Int).SetString(word, 10)
		if round&1 == 1 {
			word = "-" + word
			is.Neg(is)
		}
		want, wantE := 0, api.OK
		switch {
		case round%21 == 20:
			wantE = api.ErrForm
		case is.CmpAbs(big.NewInt(most)) > 0:
			wantE = api.ErrOver
		default:
			want = int(is.Int64())
		}
		if n, e := words.Number(word); n != want || e != wantE {
			t.Errorf("Number(%q) = %d, %d", word, n, e)
		}
	}
}

// P1.4: the digits of all ints, the least and the greatest too.
func TestPut(t *testing.T) {
	for _, c := range []struct {
		n    int
		text string
	}{
		{0, "0"},
		{9, "9"},
		{10, "10"},
		{-1, "-1"},
		{-10, "-10"},
		{1002003, "1002003"},
		{most, "1152921504606846976"},
		{-most, "-1152921504606846976"},
		{math.MaxInt, "9223372036854775807"},
		{math.MinInt, "-9223372036854775808"},
		{math.MinInt + 1, "-9223372036854775807"},
	} {
		if text := words.Put(c.n); text != c.text {
			t.Errorf("Put(%d) = %q", c.n, text)
		}
	}
}

// otherDigits tells the same number by U+FF10 to U+FF19 and U+2212; mixed: by every second of them.
func otherDigits(text string, mixed bool) string {
	var b strings.Builder
	for i, c := range text {
		switch {
		case c == '-':
			b.WriteRune(0x2212)
		case mixed && i%2 == 0:
			b.WriteRune(c)
		default:
			b.WriteRune(c - '0' + 0xff10)
		}
	}
	return b.String()
}

// P1.5: what is put is a number's text, whichever digits it is told by.
func TestPutIsANumber(t *testing.T) {
	check := func(n int) {
		text := words.Put(n)
		for _, word := range []string{text, otherDigits(text, false), otherDigits(text, true)} {
			if got, e := words.Number(word); got != n || e != api.OK {
				t.Errorf("Number(%q) = %d, %d", word, got, e)
			}
		}
	}
	for n := -1100; n <= 1100; n++ {
		check(n)
	}
	for shift := range 60 {
		for d := -1; d <= 1; d++ {
			check(1<<shift + d)
			check(-(1<<shift + d))
		}
	}
	for _, n := range []int{most, -most, most - 1, 1 - most} {
		check(n)
	}
	for _, n := range []int{most + 1, -most - 1, math.MaxInt, math.MinInt} {
		if got, e := words.Number(words.Put(n)); got != 0 || e != api.ErrOver {
			t.Errorf("%d: %d, %d", n, got, e)
		}
	}
}
