package coef

import (
	"iter"
	"slices"
	"testing"

	"gyre/api"
)

// gather takes what an iterator tells, and leaves it behind so many.
func gather[T any](l iter.Seq[T], early int) []T {
	var got []T
	for x := range l {
		got = append(got, x)
		if len(got) == early {
			break
		}
	}
	return got
}

func left[T comparable](t *testing.T, l iter.Seq[T], want []T) {
	t.Helper()
	for early := 1; early <= len(want); early++ {
		if got := gather(l, early); !slices.Equal(got, want[:early]) {
			t.Error(early, got)
		}
	}
	for range 2 {
		if got := gather(l, 0); !slices.Equal(got, want) {
			t.Error(got)
		}
	}
}

// Whoever goes over parts, or operations, may leave at each of them, and go over them again.
func TestIterators(t *testing.T) {
	for method := range api.Methods {
		parts, _ := Parts(method)
		left(t, weights(method), parts)
		ops, _ := Ops(method)
		left(t, step(method), ops)
		left(t, forward(ops...), ops)
		ops[0].N++
		reverse := slices.Clone(ops)
		slices.Reverse(reverse)
		left(t, backward(ops...), reverse)
	}
	left(t, forward(), nil)
	left(t, backward(), nil)
}

// Two sums that are put together at the same time have nothing to do with each other.
func TestSumsSideBySide(t *testing.T) {
	a, b := sum(), sum()
	for i := 1; i < 100; i++ {
		if n, d := a(api.Op{N: 1, D: 1}); n != i || d != 1 {
			t.Error(i, n, d)
		}
		n, d := b(api.Op{N: -1, D: 2})
		if wantN, wantD := lowest(-i, 2); n != wantN || d != wantD {
			t.Error(i, n, d)
		}
	}
}

// A sum that counts, and one beside it.
func TestCounts(t *testing.T) {
	for _, c := range []struct {
		n, d int
		want bool
	}{
		{0, 1, true}, {1 << 36, 1 << 24, true}, {-1 << 36, 1 << 24, true},
		{1<<36 + 1, 1, false}, {-1<<36 - 1, 1, false}, {0, 1<<24 + 1, false}, {1<<36 + 1, 1<<24 + 1, false},
	} {
		if counts(c.n, c.d) != c.want {
			t.Error(c.n, c.d)
		}
	}
}

// In lowest terms there is no number that both could be told by.
func TestLowest(t *testing.T) {
	for n := -60; n <= 60; n++ {
		for d := 1; d <= 60; d++ {
			a, b := lowest(n, d)
			if a*d != n*b || b < 1 {
				t.Error(n, d, a, b)
			}
			for k := 2; k <= b; k++ {
				if a%k == 0 && b%k == 0 {
					t.Error(n, d, a, b)
				}
			}
		}
	}
	if n, d := lowest(-1<<58, 1<<45); n != -1<<13 || d != 1 {
		t.Error(n, d)
	}
}
