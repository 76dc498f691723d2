package conf

import (
	"iter"
	"slices"
	"testing"

	"gyre/api"
)

// gather takes what is told, and leaves behind so many.
func gather(l iter.Seq[int], early int) []int {
	var got []int
	for x := range l {
		got = append(got, x)
		if len(got) == early {
			break
		}
	}
	return got
}

// leave asks that whoever goes over what is told may leave at each place, and go over it again.
func leave(t *testing.T, l iter.Seq[int], want []int) {
	t.Helper()
	for early := 1; early <= len(want); early++ {
		if got := gather(l, early); !slices.Equal(got, want[:early]) {
			t.Error(early, got)
		}
	}
	for range 2 {
		if got := gather(l, -1); !slices.Equal(got, want) {
			t.Error(got, want)
		}
	}
}

// Each name has its law, and each law its name.
func TestLaws(t *testing.T) {
	so := laws(api.Conf{})
	if len(so) != things {
		t.Error(len(so))
	}
	for _, name := range names() {
		if so[name] == nil {
			t.Error(name)
		}
	}
}

// A row's numbers, in order, and as many as it is long.
func TestNumbers(t *testing.T) {
	c := api.Conf{Mass: []int{7, 8, 9}, G: 1, Box: 2, Top: 3, Near: 4, Method: 5}
	leave(t, numbers(c), []int{3, 7, 8, 9, 1, 2, 3, 4, 5})
	leave(t, masses(c), []int{7, 8, 9})
	leave(t, numbers(api.Conf{}), []int{0, 0, 0, 0, 0, 0})
	leave(t, masses(api.Conf{}), nil)
	for n := range 6 {
		if got := len(slices.Collect(numbers(api.Conf{Mass: make([]int, n)}))); got != long(n) {
			t.Error(n, got)
		}
	}
}

// How many masses there may be.
func TestMay(t *testing.T) {
	for n := -3; n <= 9; n++ {
		if got, want := may(n), n == 1 || n == 2 || n == 3 || n == 4; got != want {
			t.Error(n, got)
		}
	}
}
