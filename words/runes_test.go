package words

import "testing"

// Whoever goes over the words may leave early, and go over them again.
func TestWordsOfMayBeLeft(t *testing.T) {
	all := wordsOf("a b c", runeKinds())
	for range 2 {
		for w := range all {
			if w.At != 0 || w.Text != "a" {
				t.Error(w)
			}
			break
		}
		n := 0
		for range all {
			n++
		}
		if n != 3 {
			t.Error(n)
		}
	}
}
