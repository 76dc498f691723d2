package wave

import (
	"iter"
	"slices"
	"testing"

	"gyre/api"
	"gyre/ival"
)

type placed struct {
	k int
	t api.Ival
}

// gather takes what an iterator tells, and leaves it behind so many.
func gather(l iter.Seq2[int, api.Ival], early int) []placed {
	var got []placed
	for k, t := range l {
		got = append(got, placed{k, t})
		if len(got) == early {
			break
		}
	}
	return got
}

// Whoever goes over the terms may leave at each of them, and go over them again.
func TestIterators(t *testing.T) {
	for _, n := range []int{0, 1, -api.One, 3 * api.One} {
		for name, c := range map[string]struct {
			l      iter.Seq2[int, api.Ival]
			cosine bool
		}{"sines": {sines(n), false}, "cosines": {cosines(n), true}} {
			var want []placed
			for k := range last + 1 {
				want = append(want, placed{k, Term(n, k, c.cosine)})
			}
			for early := 1; early <= len(want); early++ {
				if got := gather(c.l, early); !slices.Equal(got, want[:early]) {
					t.Error(name, n, early, got)
				}
			}
			if got := gather(c.l, 0); !slices.Equal(got, want) {
				t.Error(name, n, got)
			}
		}
	}
}

// The last term is not added: its end that is farther from 0 widens the sum at both ends.
func TestEnclosure(t *testing.T) {
	terms := func(final api.Ival) iter.Seq2[int, api.Ival] {
		return func(yield func(int, api.Ival) bool) {
			for k := range last {
				if !yield(k, api.Ival{Lo: k, Hi: 2 * k}) {
					return
				}
			}
			yield(last, final)
		}
	}
	for _, c := range []struct{ final, want api.Ival }{
		{api.Ival{}, api.Ival{Lo: 78, Hi: 156}},
		{api.Ival{Lo: 1, Hi: 3}, api.Ival{Lo: 75, Hi: 159}},
		{api.Ival{Lo: -3, Hi: -1}, api.Ival{Lo: 75, Hi: 159}},
		{api.Ival{Lo: -3, Hi: 1}, api.Ival{Lo: 75, Hi: 159}},
		{api.Ival{Lo: -1, Hi: 3}, api.Ival{Lo: 75, Hi: 159}},
	} {
		if got := enclosure(terms(c.final)); got != c.want {
			t.Error(c, got)
		}
	}
}

// No sine and no cosine is beyond One, either way.
func TestWidened(t *testing.T) {
	const one = api.One
	for _, c := range []struct {
		a    api.Ival
		by   int
		want api.Ival
	}{
		{ival.Point(5), 0, ival.Point(5)},
		{ival.Make(5, 7), 3, ival.Make(2, 10)},
		{ival.Make(-7, -5), 3, ival.Make(-10, -2)},
		{ival.Make(-one, one), 0, ival.Make(-one, one)},
		{ival.Point(one), 1, ival.Make(one-1, one)},
		{ival.Point(-one), 1, ival.Make(-one, 1-one)},
		{ival.Make(-one, one), 4 * one, ival.Make(-one, one)},
		{ival.Point(one + 1), 0, api.Ival{Bad: true}},
	} {
		if got := widened(c.a, c.by); got != c.want {
			t.Error(c, got)
		}
	}
}
