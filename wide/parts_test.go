package wide

import (
	"math"
	"testing"

	"gyre/api"
)

// Whoever goes over the words may leave early, and go over them again.
func TestWordsOfMayBeLeft(t *testing.T) {
	all := wordsOf(api.Wide{5, 6, 7, 8})
	for range 2 {
		for i, w := range all {
			if i != 0 || w != 5 {
				t.Error(i, w)
			}
			break
		}
		n := 0
		for i, w := range all {
			if i != n || w != uint64(5+n) {
				t.Error(i, w)
			}
			n++
		}
		if n != 4 {
			t.Error(n)
		}
	}
}

// The greatest sizes there are: no carry is lost.
func TestProductOfTheGreatest(t *testing.T) {
	const all = math.MaxUint64
	low, high := product(api.Wide{all, all, all, all}, api.Wide{all, all, all, all})
	if low != (api.Wide{1}) || high != (api.Wide{all - 1, all, all, all}) {
		t.Errorf("%x, %x", low, high)
	}
}
