package state

import (
	"iter"
	"slices"
	"testing"

	"gyre/api"
)

// gather takes what is told, and leaves behind so many.
func gather[T any](l iter.Seq[T], early int) []T {
	var got []T
	for x := range l {
		got = append(got, x)
		if len(got) == early {
			break
		}
	}
	return got
}

// leave asks that whoever goes over what is told may leave at each place, and go over it again.
func leave[T comparable](t *testing.T, l iter.Seq[T], want []T) {
	t.Helper()
	for early := 1; early <= len(want); early++ {
		if got := gather(l, early); !slices.Equal(got, want[:early]) {
			t.Error(early, got)
		}
	}
	for range 2 {
		if got := gather(l, -1); !slices.Equal(got, want) {
			t.Error(got, want)
		}
	}
}

func two() []api.Body {
	return []api.Body{{X: api.Vec{1, 2, 3}, V: api.Vec{4, 5, 6}}, {X: api.Vec{7, 8, 9}, V: api.Vec{10, 11, 12}}}
}

// A row's numbers, in order.
func TestNumbers(t *testing.T) {
	leave(t, numbers(api.State{Step: -5, B: two()}), []int{-5, 2, 1, 2, 3, 4, 5, 6, 7, 8, 9, 10, 11, 12})
	leave(t, numbers(api.State{Step: 7}), []int{7, 0})
	for n := range 6 {
		s := api.State{B: make([]api.Body, n)}
		if got := len(slices.Collect(numbers(s))); got != long(n) {
			t.Error(n, got)
		}
	}
}

// Bodies, of their numbers.
func TestBodies(t *testing.T) {
	leave(t, bodies([]int{1, 2, 3, 4, 5, 6, 7, 8, 9, 10, 11, 12}), two())
	leave(t, bodies(nil), nil)
}

// Squares of the ways, each two bodies once.
func TestSquares(t *testing.T) {
	at := func(x int) api.Body { return api.Body{X: api.Vec{x, 0, 0}, V: api.Vec{0, x, x}} }
	leave(t, squares([]api.Body{at(0), at(1), at(10), at(100)}), []int{1, 100, 10000, 81, 9801, 8100})
	leave(t, squares([]api.Body{at(3), at(-4)}), []int{49})
	leave(t, squares([]api.Body{at(3)}), nil)
	leave(t, squares(nil), nil)
}

// How many bodies a state may have.
func TestMay(t *testing.T) {
	for n := -3; n <= 9; n++ {
		if got, want := may(n), n == 1 || n == 2 || n == 3 || n == 4; got != want {
			t.Error(n, got)
		}
	}
}
