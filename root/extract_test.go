package root

import (
	"math"
	"slices"
	"testing"

	"gyre/api"
	"gyre/wide"
)

const all = math.MaxUint64

// Whoever goes over the bits may leave early, and go over them again; a root has half its number's bits, the odd one too.
func TestBitsOfRoot(t *testing.T) {
	places := bitsOfRoot(api.Wide{1 << 4})
	for range 2 {
		for k := range places {
			if k != 2 {
				t.Error(k)
			}
			break
		}
		if l := slices.Collect(places); !slices.Equal(l, []int{2, 1, 0}) {
			t.Error(l)
		}
	}
	for _, c := range []struct {
		a    api.Wide
		many int
	}{
		{api.Wide{}, 0},
		{api.Wide{1}, 1},
		{api.Wide{3}, 1},
		{api.Wide{4}, 2},
		{api.Wide{15}, 2},
		{api.Wide{all}, 32},
		{api.Wide{0, 1}, 33},
		{api.Wide{all, all}, 64},
		{api.Wide{0, 0, 0, 1 << 62}, 128},
		{api.Wide{all, all, all, math.MaxInt64}, 128},
	} {
		if l := slices.Collect(bitsOfRoot(c.a)); len(l) != c.many {
			t.Errorf("%x: %d", c.a, l)
		}
	}
}

// Noughts ahead are not counted, whichever words are noughts.
func TestLength(t *testing.T) {
	for _, c := range []struct {
		a api.Wide
		n int
	}{
		{api.Wide{}, 0},
		{api.Wide{1}, 1},
		{api.Wide{all}, 64},
		{api.Wide{0, 1}, 65},
		{api.Wide{all, 0, 2}, 130},
		{api.Wide{all, 0, 0, 1}, 193},
		{api.Wide{0, 0, 0, 1 << 62}, 255},
	} {
		if n := length(c.a); n != c.n {
			t.Errorf("%x: %d", c.a, n)
		}
	}
}

// A bit goes from each word to the one below it, and none comes round.
func TestHalved(t *testing.T) {
	for _, c := range []struct{ a, half api.Wide }{
		{api.Wide{}, api.Wide{}},
		{api.Wide{1}, api.Wide{}},
		{api.Wide{0, 1}, api.Wide{1 << 63}},
		{api.Wide{0, 0, 1}, api.Wide{0, 1 << 63}},
		{api.Wide{0, 0, 0, 1}, api.Wide{0, 0, 1 << 63}},
		{api.Wide{all, all, all, math.MaxInt64}, api.Wide{all, all, all, math.MaxInt64 >> 1}},
	} {
		if half := halved(c.a); half != c.half {
			t.Errorf("%x: %x", c.a, half)
		}
	}
}

// The root's square, and what is left, are the number; twice the root is no less than what is left.
func TestExtract(t *testing.T) {
	for _, a := range []api.Wide{{}, {1}, {2}, {3}, {99}, {all}, {0, 1}, {all, all}, {5, 0, 7}, {0, 0, 0, 1 << 62}, {all, all, all, math.MaxInt64}} {
		x := extract(a)
		square, over := wide.Mul(x.root, x.root)
		if sum, o := wide.Add(square, x.left); sum != a || over || o {
			t.Errorf("%x: %x, %x", a, x.root, x.left)
		}
		twice, _ := wide.Add(x.root, x.root)
		if wide.Sign(x.left) < 0 || wide.Cmp(x.left, twice) > 0 {
			t.Errorf("%x: %x is left", a, x.left)
		}
	}
}

// An error that work is left by is told, beside nought; none is told of work that ends.
func TestTold(t *testing.T) {
	for _, left := range []api.Errno{api.ErrArg, api.ErrZero} {
		if n, e := told(func() int { panic(left) }); n != 0 || e != left {
			t.Error(n, e)
		}
	}
	if n, e := told(func() int { return 5 }); n != 5 || e != api.OK {
		t.Error(n, e)
	}
}
