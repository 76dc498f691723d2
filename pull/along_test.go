package pull

import (
	"slices"
	"testing"

	"gyre/api"
)

type placed struct{ i, x int }

// gather takes the coordinates that are told, and leaves behind so many.
func gather(dx api.Vec, early int) []placed {
	var got []placed
	for i, x := range coordinates(dx) {
		got = append(got, placed{i, x})
		if len(got) == early {
			break
		}
	}
	return got
}

// Whoever goes over the coordinates may leave at each of them, and go over them again.
func TestCoordinatesMayBeLeft(t *testing.T) {
	dx := api.Vec{5, -6, 7}
	want := []placed{{0, 5}, {1, -6}, {2, 7}}
	for early := 1; early <= 3; early++ {
		if got := gather(dx, early); !slices.Equal(got, want[:early]) {
			t.Error(early, got)
		}
	}
	l := coordinates(dx)
	for range 2 {
		n := 0
		for i, x := range l {
			if want[n] != (placed{i, x}) {
				t.Error(n, i, x)
			}
			n++
		}
		if n != 3 {
			t.Error(n)
		}
	}
}

// An error that work is left by is told, beside nought; none is told of work that ends.
func TestTold(t *testing.T) {
	for _, left := range []api.Errno{api.ErrArg, api.ErrZero} {
		if p, e := told(func() api.Vec { panic(left) }); p != (api.Vec{}) || e != left {
			t.Error(p, e)
		}
	}
	if n, e := told(func() int { return 5 }); n != 5 || e != api.OK {
		t.Error(n, e)
	}
}

// A product goes on beyond what an int holds; of none it is 1.
func TestProduct(t *testing.T) {
	for _, c := range []struct {
		l []int
		p api.Wide
	}{
		{nil, api.Wide{1}},
		{[]int{7}, api.Wide{7}},
		{[]int{6, 7, 2}, api.Wide{84}},
		{[]int{1 << 52, 1 << 52, 1 << 21, 1 << 21}, api.Wide{0, 0, 1 << 18}},
		{[]int{1 << 42, 1 << 43, 1 << 43, 1 << 43}, api.Wide{0, 0, 1 << 43}},
	} {
		if p := product(c.l...); p != c.p {
			t.Errorf("%d: %x", c.l, p)
		}
	}
}
