package quot

import (
	"math"
	"slices"
	"testing"

	"gyre/api"
)

const all = math.MaxUint64

// Whoever goes over the places may leave early, and go over them again.
func TestFallingMayBeLeft(t *testing.T) {
	places := falling(2)
	for range 2 {
		for i := range places {
			if i != 2 {
				t.Error(i)
			}
			break
		}
		if l := slices.Collect(places); !slices.Equal(l, []int{2, 1, 0}) {
			t.Error(l)
		}
	}
	if l := slices.Collect(falling(-1)); len(l) != 0 {
		t.Error(l)
	}
}

// Digits whose guess is right, one too great, and two too great, by whether the highest words are the same or not.
func TestDigit(t *testing.T) {
	for i, c := range []struct {
		u, v []uint64
		q    uint64
		left []uint64
	}{
		{[]uint64{7, 0}, []uint64{1 << 63}, 0, []uint64{7, 0}},
		{[]uint64{all, 1<<63 - 1}, []uint64{1 << 63}, all, []uint64{1<<63 - 1, 0}},
		{[]uint64{all, all - 1}, []uint64{all}, all, []uint64{all - 1, 0}},
		{[]uint64{0, 0, 1}, []uint64{0, 1 << 63}, 2, []uint64{0, 0, 0}},
		{[]uint64{0, 0, 1}, []uint64{1, 1 << 63}, 1, []uint64{all, 1<<63 - 1, 0}},
		{[]uint64{0, 0, 1 << 63}, []uint64{1, 1 << 63}, all, []uint64{1, 1<<63 - 1, 0}},
		{[]uint64{0, 0, 1<<63 - 1}, []uint64{all, 1 << 63}, all - 3, []uint64{all - 3, 4, 0}},
		{[]uint64{0, 0, 1 << 63}, []uint64{all, 1 << 63}, all - 1, []uint64{all - 1, 2, 0}},
	} {
		u := slices.Clone(c.u)
		if q := digit(u, c.v); q != c.q || !slices.Equal(u, c.left) {
			t.Errorf("%d: %x, %x", i, q, u)
		}
	}
}

// Sizes are divided without a sign: the highest bit is one as others are.
func TestDivideSizesOfTheGreatest(t *testing.T) {
	whole := api.Wide{all, all, all, all}
	for i, c := range []struct{ a, b, times, left api.Wide }{
		{whole, api.Wide{1}, whole, api.Wide{}},
		{whole, whole, api.Wide{1}, api.Wide{}},
		{whole, api.Wide{0, 0, 0, 1 << 63}, api.Wide{1}, api.Wide{all, all, all, 1<<63 - 1}},
		{whole, api.Wide{0, 0, 1}, api.Wide{all, all}, api.Wide{all, all}},
		{api.Wide{}, whole, api.Wide{}, api.Wide{}},
		{api.Wide{5}, whole, api.Wide{}, api.Wide{5}},
	} {
		if times, left := divideSizes(c.a, c.b); times != c.times || left != c.left {
			t.Errorf("%d: %x, %x", i, times, left)
		}
	}
}

// Noughts ahead are not counted.
func TestLength(t *testing.T) {
	for i, a := range []api.Wide{{}, {1}, {0, all}, {5, 0, 1}, {0, 0, 0, 1 << 63}} {
		if n := length(a); n != i {
			t.Error(i, n)
		}
	}
}

// What goes to five words comes back, at each shift there is.
func TestLiftedComesBack(t *testing.T) {
	for shift := range 64 {
		for _, a := range []api.Wide{{}, {1}, {0, 0, 0, 1 << 63}, {all, all, all, all}, {1, 2, 3, 4}} {
			if back := lowered(lifted(a, shift), shift); back != a {
				t.Errorf("%x by %d: %x", a, shift, back)
			}
		}
	}
}

// An error that work is left by is told, beside nought; none is told of work that ends.
func TestTold(t *testing.T) {
	for _, left := range []api.Errno{api.ErrArg, api.ErrOver, api.ErrZero} {
		if n, e := told(func() int { panic(left) }); n != 0 || e != left {
			t.Error(n, e)
		}
	}
	if n, e := told(func() int { return 5 }); n != 5 || e != api.OK {
		t.Error(n, e)
	}
}
