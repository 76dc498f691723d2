package vec

import (
	"math"
	"slices"
	"testing"

	"gyre/api"
)

type placed struct{ i, x int }

// gather takes the parts that are told, and leaves behind so many.
func gather(a api.Vec, early int) []placed {
	var got []placed
	for i, x := range parts(a) {
		got = append(got, placed{i, x})
		if len(got) == early {
			break
		}
	}
	return got
}

// Whoever goes over the parts may leave at each of them, and go over them again.
func TestPartsMayBeLeft(t *testing.T) {
	a := api.Vec{5, -6, math.MinInt}
	want := []placed{{0, 5}, {1, -6}, {2, math.MinInt}}
	for early := 1; early <= 3; early++ {
		if got := gather(a, early); !slices.Equal(got, want[:early]) {
			t.Error(early, got)
		}
	}
	l := parts(a)
	for range 2 {
		n := 0
		for i, x := range l {
			for k, y := range l {
				if want[k] != (placed{k, y}) {
					t.Error(k, y)
				}
			}
			if want[n] != (placed{i, x}) {
				t.Error(n, i, x)
			}
			n++
		}
		if n != 3 {
			t.Error(n)
		}
	}
}

// The parts are those that there were when the iterator was made.
func TestPartsAreKept(t *testing.T) {
	a := api.Vec{1, 2, 3}
	l := parts(a)
	for i, x := range l {
		a = api.Vec{7, 8, 9}
		if x != i+1 {
			t.Error(i, x)
		}
	}
	if a != (api.Vec{7, 8, 9}) {
		t.Error(a)
	}
}

// Each part and its place are told once, in order; what comes of them leaves the point as it is.
func TestEachAndSum(t *testing.T) {
	a := api.Vec{5, -6, 7}
	var asked []placed
	tell := func(i, x int) int {
		asked = append(asked, placed{i, x})
		return x + 100*i
	}
	if r := each(a, tell); r != [3]int{5, 94, 207} {
		t.Error(r)
	}
	if s := sum(a, tell); s != 306 {
		t.Error(s)
	}
	if want := []placed{{0, 5}, {1, -6}, {2, 7}}; !slices.Equal(asked, slices.Concat(want, want)) {
		t.Error(asked)
	}
	if a != (api.Vec{5, -6, 7}) {
		t.Error(a)
	}
}

// The nearest number that is not beyond the bounds.
func TestBounded(t *testing.T) {
	for _, c := range []struct{ x, most, want int }{
		{0, 0, 0}, {1, 0, 0}, {-1, 0, 0}, {3, 4, 3}, {4, 4, 4}, {5, 4, 4}, {-3, 4, -3}, {-4, 4, -4}, {-5, 4, -4},
		{math.MaxInt, 4, 4}, {math.MinInt, 4, -4}, {math.MaxInt, math.MaxInt, math.MaxInt}, {math.MinInt, math.MaxInt, -math.MaxInt},
	} {
		if got := bounded(c.x, c.most); got != c.want {
			t.Error(c, got)
		}
	}
}

// What came of points is told just if all of them may be, and it too.
func TestFineOfResults(t *testing.T) {
	good, great := api.Vec{farthest, -farthest, 0}, api.Vec{0, farthest + 1, 0}
	for _, c := range []struct {
		r    api.Vec
		of   []api.Vec
		want api.Errno
	}{
		{good, nil, api.OK}, {good, []api.Vec{good}, api.OK}, {good, []api.Vec{good, {}}, api.OK},
		{great, nil, api.ErrOver}, {great, []api.Vec{good}, api.ErrOver}, {good, []api.Vec{great}, api.ErrOver},
		{good, []api.Vec{good, great}, api.ErrOver}, {good, []api.Vec{great, good}, api.ErrOver},
	} {
		var want api.Vec
		if c.want == api.OK {
			want = c.r
		}
		if r, e := fine(c.r, c.of...); r != want || e != c.want {
			t.Error(c, r, e)
		}
	}
}
