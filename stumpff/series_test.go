package stumpff

import (
	"iter"
	"slices"
	"testing"

	"gyre/api"
	"gyre/ival"
)

type placed struct {
	n int
	u api.Ival
}

// gather takes what an iterator tells, and leaves it behind so many.
func gather(l iter.Seq2[int, api.Ival], early int) []placed {
	var got []placed
	for n, u := range l {
		got = append(got, placed{n, u})
		if len(got) == early {
			break
		}
	}
	return got
}

// Whoever goes over the terms may leave at each of them, and go over them again.
func TestIterators(t *testing.T) {
	for _, p := range []int{0, 1, -api.One, 16 * api.One} {
		for k, terms := range four() {
			l := terms(p)
			var want []placed
			for n := range last + 1 {
				want = append(want, placed{n, Term(k, p, n)})
			}
			for early := 1; early <= len(want); early++ {
				if got := gather(l, early); !slices.Equal(got, want[:early]) {
					t.Error(k, p, early, got)
				}
			}
			if got := gather(l, 0); !slices.Equal(got, want) {
				t.Error(k, p, got)
			}
		}
	}
}

// What tells the terms of a point may be asked for those of another one while they are gone over.
func TestIteratorsSideBySide(t *testing.T) {
	l := four()
	for k, terms := range l {
		other := (k + 1) % len(l)
		for n, u := range terms(api.One) {
			for m, v := range l[other](-api.One) {
				if want := Term(other, -api.One, m); v != want {
					t.Error(other, m, v, want)
				}
			}
			if want := Term(k, api.One, n); u != want {
				t.Error(k, n, u, want)
			}
		}
	}
}

// The last term is not added: twice its end that is farther from 0 widens the sum at both ends.
func TestEnclosure(t *testing.T) {
	terms := func(final api.Ival) iter.Seq2[int, api.Ival] {
		return func(yield func(int, api.Ival) bool) {
			for n := range last {
				if !yield(n, api.Ival{Lo: n, Hi: 2 * n}) {
					return
				}
			}
			yield(last, final)
		}
	}
	for _, c := range []struct{ final, want api.Ival }{
		{api.Ival{}, api.Ival{Lo: 91, Hi: 182}},
		{api.Ival{Lo: 1, Hi: 3}, api.Ival{Lo: 85, Hi: 188}},
		{api.Ival{Lo: -3, Hi: -1}, api.Ival{Lo: 85, Hi: 188}},
		{api.Ival{Lo: -3, Hi: 1}, api.Ival{Lo: 85, Hi: 188}},
		{api.Ival{Lo: -1, Hi: 3}, api.Ival{Lo: 85, Hi: 188}},
	} {
		if got := enclosure(terms(c.final)); got != c.want {
			t.Error(c, got)
		}
	}
}

// From the last term on, each is less than half of the one ahead, for all numbers of which series are told.
func TestRest(t *testing.T) {
	for k := range four() {
		if n := last; 2*16 >= (k+2*n+1)*(k+2*n+2) {
			t.Error(k)
		}
	}
	if numbers() != ival.Make(-16*api.One, 16*api.One) {
		t.Error(numbers())
	}
}
