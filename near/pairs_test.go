package near

import (
	"slices"
	"testing"

	"gyre/api"
)

func row(l ...int) api.State {
	var s api.State
	for _, x := range l {
		s.B = append(s.B, api.Body{X: api.Vec{0, x, 0}, V: api.Vec{x, 1, x}})
	}
	return s
}

func pair(i, j, square int) api.Pair {
	return api.Pair{I: i, J: j, Square: square}
}

func gather(s api.State, early int) []api.Pair {
	var got []api.Pair
	for p := range pairs(s) {
		got = append(got, p)
		if len(got) == early {
			break
		}
	}
	return got
}

// Whoever goes over the pairs may leave at each of them, and go over them again.
func TestPairsMayBeLeft(t *testing.T) {
	for _, c := range []struct {
		s    api.State
		want []api.Pair
	}{
		{row(0, 1, 10, 100), []api.Pair{pair(0, 1, 1), pair(0, 2, 100), pair(0, 3, 10000), pair(1, 2, 81), pair(1, 3, 9801), pair(2, 3, 8100)}},
		{row(3, 3, -4), []api.Pair{pair(0, 1, 0), pair(0, 2, 49), pair(1, 2, 49)}},
		{row(5, 3), []api.Pair{pair(0, 1, 4)}},
		{row(5), nil},
		{row(), nil},
		{row(1, 2, 3, 4, 5), nil},
	} {
		for early := 1; early <= len(c.want); early++ {
			if got := gather(c.s, early); !slices.Equal(got, c.want[:early]) {
				t.Error(early, got)
			}
		}
		l := pairs(c.s)
		for range 2 {
			if got := slices.Collect(l); !slices.Equal(got, c.want) {
				t.Error(got)
			}
		}
	}
}

// Just below the square, and none in a configuration that may not be.
func TestBelow(t *testing.T) {
	c := api.Conf{Mass: []int{1}, G: 1, Box: 10, Top: 1, Near: 7}
	for square, want := range map[int]bool{0: true, 1: true, 48: true, 49: false, 50: false, 1 << 42: false} {
		if below(c)(api.Pair{J: 1, Square: square}) != want {
			t.Error(square)
		}
	}
	c.Near = 21
	if below(c)(api.Pair{J: 1}) {
		t.Error("it may not be")
	}
}

// A state whose bodies can't all go on is none.
func TestMovedOn(t *testing.T) {
	if m, is := moved(row(1, 2), api.Vec{5, 6, 7}); !is || m.B[0].X != (api.Vec{5, 7, 7}) || m.B[1].X != (api.Vec{5, 8, 7}) || m.B[1].V != (api.Vec{2, 1, 2}) {
		t.Error(m, is)
	}
	if m, is := moved(row(1, 2), api.Vec{1<<29 + 1, 0, 0}); is || m.B != nil {
		t.Error(m, is)
	}
}
