package words_test

import (
	"math"
	"slices"
	"testing"
	"unicode"
	"unicode/utf8"

	"gyre/api"
	"gyre/words"
)

// fiveBlanks are the chapter's, told here a second time so that no change of the map goes unseen.
var fiveBlanks = []rune{0x20, 0x09, 0x0a, 0xa0, 0x3000}

// mayStand is the chapter's sentence on runes, of whole runes alone.
func mayStand(c rune) bool {
	return slices.Contains(fiveBlanks, c) || c >= 0x20 && c != 0x7f && c != 0xfffd
}

// isRune: is there a text of this rune alone?
func isRune(c rune) bool { return c >= 0 && c <= unicode.MaxRune && (c < 0xd800 || c > 0xdfff) }

// P1.1: each rune counts once, however many bytes it has, and so does each bad byte.
func TestCount(t *testing.T) {
	for _, c := range []struct {
		text string
		n    int
	}{
		{"", 0},
		{" ", 1},
		{"abc", 3},
		{" \t\n\u00a0\u3000", 5},
		{"\u00e9\u2192\U0001f300", 3},
		{"\x00\x1f\x7f", 3},
		{"\ufffd", 1},
		{"\xff", 1},
		{"\x80\x80\x80", 3},
		{"\xe2\x82", 2},
		{"\xe2\x82\xac", 1},
		{"\xe2\x82x", 3},
		{"\xc0\xaf", 2},
		{"\xed\xa0\x80", 3},
		{"\xf4\x90\x80\x80", 4},
		{"a\xffb\xfe", 4},
	} {
		if n := words.Count(c.text); n != c.n {
			t.Errorf("Count(%q) = %d, not %d", c.text, n, c.n)
		}
	}
}

// P1.1: the five blanks are all there are, of all numbers that a rune may hold.
func TestBlank(t *testing.T) {
	for c := rune(-0x100); c <= 0x3100; c++ {
		if got, is := words.Blank(c), slices.Contains(fiveBlanks, c); got != is {
			t.Errorf("Blank(%#x) = %v", c, got)
		}
	}
	for _, c := range []rune{math.MinInt32, 0xd800, 0xfeff, 0xfffd, 0xffff, 0x10ffff, 0x110000, math.MaxInt32} {
		if words.Blank(c) {
			t.Errorf("Blank(%#x)", c)
		}
	}
}

// P1.2: words, their places in runes, and how many runes the text has.
func TestSplitTellsWords(t *testing.T) {
	for _, c := range []struct {
		text string
		l    []api.Word
		n    int
	}{
		{"", nil, 0},
		{" ", nil, 1},
		{" \t\n\u00a0\u3000", nil, 5},
		{"a", []api.Word{{At: 0, Text: "a"}}, 1},
		{"a b", []api.Word{{At: 0, Text: "a"}, {At: 2, Text: "b"}}, 3},
		{"  ab  cd  ", []api.Word{{At: 2, Text: "ab"}, {At: 6, Text: "cd"}}, 10},
		{" go\u3000\u221212", []api.Word{{At: 1, Text: "go"}, {At: 4, Text: "\u221212"}}, 7},
		{"\U0001f300\u00e9\u00a0x", []api.Word{{At: 0, Text: "\U0001f300\u00e9"}, {At: 3, Text: "x"}}, 4},
		{"a\u2003b", []api.Word{{At: 0, Text: "a\u2003b"}}, 3},
		{"\u0080 \u0085\ufeff", []api.Word{{At: 0, Text: "\u0080"}, {At: 2, Text: "\u0085\ufeff"}}, 4},
		{"\ufffc \ufffe", []api.Word{{At: 0, Text: "\ufffc"}, {At: 2, Text: "\ufffe"}}, 3},
	} {
		l, n, e := words.Split(c.text)
		if e != api.OK || n != c.n || !slices.Equal(l, c.l) {
			t.Errorf("Split(%q) = %v, %d, %d", c.text, l, n, e)
		}
	}
}

// P1.2: each of the five blanks parts two words, and stands at either end.
func TestSplitAtEachBlank(t *testing.T) {
	for _, b := range fiveBlanks {
		s := string(b)
		l, n, e := words.Split(s + "\u2192" + s + s + "b" + s)
		if e != api.OK || n != 6 || !slices.Equal(l, []api.Word{{At: 1, Text: "\u2192"}, {At: 4, Text: "b"}}) {
			t.Errorf("blank %#x: %v, %d, %d", b, l, n, e)
		}
	}
}

// P1.2: the first rune that may not stand is told by its place, and no words.
func TestSplitTellsWhatMayNotStand(t *testing.T) {
	for _, c := range []struct {
		text string
		at   int
	}{
		{"\x00", 0},
		{"\xff", 0},
		{"a b\x1f", 3},
		{"a\u3000\u00e9\x7f c", 3},
		{"ab \ufffd", 3},
		{"\u2192\xe2\x82", 1},
		{"\u2192 \x80", 2},
		{"go\xed\xa0\x80", 2},
		{"a\r\nb", 1},
		{"a\vb\x00", 1},
		{"a\x7f\xff", 1},
		{"\ufffda", 0},
	} {
		if l, at, e := words.Split(c.text); e != api.ErrRune || at != c.at || len(l) != 0 {
			t.Errorf("Split(%q) = %v, %d, %d", c.text, l, at, e)
		}
	}
}

// P1.2: every rune there is, beside two that may stand.
func TestSplitAtEveryRune(t *testing.T) {
	for c := rune(0); c <= unicode.MaxRune; c++ {
		if c > 0x3100 && c < 0xff00 || c > 0x10010 && c < 0x10fff0 || !isRune(c) {
			continue
		}
		s := string(c)
		l, at, e := words.Split("x" + s + "y")
		switch {
		case !mayStand(c):
			if e != api.ErrRune || at != 1 || len(l) != 0 {
				t.Errorf("%#x: %v, %d, %d", c, l, at, e)
			}
		case slices.Contains(fiveBlanks, c):
			if e != api.OK || at != 3 || !slices.Equal(l, []api.Word{{At: 0, Text: "x"}, {At: 2, Text: "y"}}) {
				t.Errorf("%#x: %v, %d, %d", c, l, at, e)
			}
		default:
			if e != api.OK || at != 3 || !slices.Equal(l, []api.Word{{At: 0, Text: "x" + s + "y"}}) {
				t.Errorf("%#x: %v, %d, %d", c, l, at, e)
			}
		}
	}
}

// P1.2: every byte alone: from 0x80 on none of them is a rune.
func TestSplitAtEveryByte(t *testing.T) {
	for b := range 256 {
		text := string([]byte{'a', ' ', byte(b)})
		l, at, e := words.Split(text)
		if b >= 0x80 || !mayStand(rune(b)) {
			if e != api.ErrRune || at != 2 || len(l) != 0 {
				t.Errorf("byte %#x: %v, %d, %d", b, l, at, e)
			}
		} else if e != api.OK || at != 3 {
			t.Errorf("byte %#x: %v, %d, %d", b, l, at, e)
		}
		if words.Count(text) != 3 {
			t.Errorf("byte %#x: counted %d", b, words.Count(text))
		}
	}
}

// R3, R4: an answer that was changed by whoever asked is told anew as it was.
func TestSplitAnswersNewMemory(t *testing.T) {
	text := "a b c"
	first, _, _ := words.Split(text)
	second, _, _ := words.Split(text)
	for i := range first {
		first[i] = api.Word{At: -1, Text: "?"}
	}
	third, _, _ := words.Split(text)
	want := []api.Word{{At: 0, Text: "a"}, {At: 2, Text: "b"}, {At: 4, Text: "c"}}
	if !slices.Equal(second, want) || !slices.Equal(third, want) {
		t.Error(second, third)
	}
}

// P1.4: one U+0020 between two, nothing else, whatever they are.
func TestJoin(t *testing.T) {
	for _, c := range []struct {
		l    []string
		text string
	}{
		{nil, ""},
		{[]string{}, ""},
		{[]string{""}, ""},
		{[]string{"a"}, "a"},
		{[]string{"a", "b"}, "a b"},
		{[]string{"", ""}, " "},
		{[]string{"a", "", "b"}, "a  b"},
		{[]string{"a ", " b"}, "a   b"},
		{[]string{"\xff", "\x00", "\u2192"}, "\xff \x00 \u2192"},
	} {
		if text := words.Join(c.l...); text != c.text {
			t.Errorf("Join(%q) = %q", c.l, text)
		}
	}
}

// R4: neither the list nor the spare room behind it is changed.
func TestJoinLeavesItsList(t *testing.T) {
	whole := []string{"a", "b", "c", "d"}
	if text := words.Join(whole[:2]...); text != "a b" {
		t.Errorf("%q", text)
	}
	if !slices.Equal(whole, []string{"a", "b", "c", "d"}) {
		t.Error(whole)
	}
}

// someWords tells rows of words, made of runes of one to four bytes, by a rule that is the same each time.
func someWords(yield func([]string) bool) {
	letters := []rune{'a', '-', '0', '?', 0x80, 0xe9, 0x2192, 0x2212, 0x3001, 0xff19, 0x1f300, 0x10ffff}
	seed := uint32(1)
	next := func(n int) int {
		seed = seed*1664525 + 1013904223
		return int(seed>>16) % n
	}
	for range 500 {
		l := make([]string, next(8))
		for i := range l {
			for range 1 + next(6) {
				l[i] += string(letters[next(len(letters))])
			}
		}
		if !yield(l) {
			return
		}
	}
}

// P1.5: words that are joined are split as they were; places count runes.
func TestJoinedIsSplit(t *testing.T) {
	for l := range someWords {
		text := words.Join(l...)
		got, n, e := words.Split(text)
		if e != api.OK || n != words.Count(text) || n != utf8.RuneCountInString(text) || len(got) != len(l) {
			t.Fatalf("%q: %v, %d, %d", l, got, n, e)
		}
		at := 0
		for i, w := range got {
			if w != (api.Word{At: at, Text: l[i]}) {
				t.Errorf("%q: word %d is %v", l, i, w)
			}
			at += utf8.RuneCountInString(l[i]) + 1
		}
	}
}

// P1.5: the chapter's example.
func TestExample(t *testing.T) {
	l, _, e := words.Split(" go\u3000\u221212")
	if e != api.OK || len(l) != 2 || l[0] != (api.Word{At: 1, Text: "go"}) || l[1].At != 4 {
		t.Fatal(l, e)
	}
	if n, e := words.Number(l[1].Text); n != -12 || e != api.OK {
		t.Error(n, e)
	}
}
