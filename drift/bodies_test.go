package drift

import (
	"slices"
	"testing"

	"gyre/api"
)

func gather(s api.State, early int) (places []int, l []api.Body) {
	for i, b := range bodies(s) {
		places, l = append(places, i), append(l, b)
		if len(l) == early {
			break
		}
	}
	return places, l
}

// Whoever goes over the bodies may leave at each of them, and go over them again.
func TestBodiesMayBeLeft(t *testing.T) {
	s := api.State{Step: 3, B: []api.Body{{X: api.Vec{1}}, {V: api.Vec{2}}, {X: api.Vec{3}, V: api.Vec{4}}}}
	for early := range 5 {
		for range 2 {
			want := 3
			if early == 1 || early == 2 {
				want = early
			}
			places, l := gather(s, early)
			if !slices.Equal(places, []int{0, 1, 2}[:want]) || !slices.Equal(l, s.B[:want]) {
				t.Error(early, places, l)
			}
		}
	}
	if _, l := gather(api.State{}, 0); len(l) != 0 {
		t.Error(l)
	}
}

// One closure tells drift after drift, an error between them or not.
func TestByTellsMany(t *testing.T) {
	way := by(1, 2)
	for range 2 {
		if w, e := way(api.Vec{3, -3, 4}); w != (api.Vec{2, -2, 2}) || e != api.OK {
			t.Error(w, e)
		}
		if w, e := way(api.Vec{3, 4, 1<<30 + 1}); w != (api.Vec{}) || e != api.ErrArg {
			t.Error(w, e)
		}
	}
}
