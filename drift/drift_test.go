package drift_test

import (
	"math"
	"math/big"
	"slices"
	"testing"

	"gyre/api"
	"gyre/drift"
)

const (
	box  = 1 << 20
	top  = 1 << 16
	far  = 1 << 30
	most = 1 << 21
)

type part struct{ n, d int }

// parts are such as are; noParts are not, by one number each, or by both.
func parts() []part {
	l := []part{
		{0, 1}, {1, 1}, {-1, 1}, {1, 2}, {-1, 2}, {1, 4}, {-8, 17}, {2, 4}, {3, 2}, {-5, 3}, {7, 8}, {1351207, 2000000}, {-1702414, 2000000},
		{most, 1}, {-most, 1}, {0, most}, {1, most}, {-1, most}, {most, most}, {-most, most}, {most - 1, most}, {most, most - 1}, {-most, most - 1},
	}
	seed := chance(7)
	for range 60 {
		l = append(l, part{seed.number(most), 1 + int(seed.next()%most)}, part{seed.number(9), 1 + int(seed.next()%9)})
	}
	return l
}

func noParts() []part {
	l := []part{{math.MinInt, math.MinInt}, {math.MaxInt, math.MaxInt}, {0, 0}, {most + 1, 0}, {-most - 1, most + 1}}
	for _, n := range []int{most + 1, -most - 1, 1 << 22, 1 << 32, -1 << 32, 1 << 53, math.MaxInt, math.MinInt} {
		l = append(l, part{n, 1}, part{n, most}, part{n, 7})
	}
	for _, d := range []int{0, -1, -2, -most, most + 1, 1 << 22, 1 << 32, 1<<32 + 1, math.MaxInt, math.MinInt} {
		l = append(l, part{1, d}, part{0, d}, part{-most, d})
	}
	return l
}

// nearest is n times v by d by the chapter's words: of two as near, the one farther from 0.
func nearest(v, n, d int) int {
	p := new(big.Int).Mul(big.NewInt(int64(v)), big.NewInt(int64(n)))
	twice := new(big.Int).Abs(p)
	twice.Lsh(twice, 1).Add(twice, big.NewInt(int64(d)))
	twice.Quo(twice, big.NewInt(2*int64(d)))
	return p.Sign() * int(twice.Int64())
}

func nearestWay(v api.Vec, p part) api.Vec {
	return api.Vec{nearest(v[0], p.n, p.d), nearest(v[1], p.n, p.d), nearest(v[2], p.n, p.d)}
}

// chance tells numbers by a rule that is the same each time.
type chance uint64

func (c *chance) next() uint64 {
	*c ^= *c << 13
	*c ^= *c >> 7
	*c ^= *c << 17
	return uint64(*c)
}

func (c *chance) number(to int) int {
	return int(c.next()%uint64(2*to+1)) - to
}

func (c *chance) vec(to int) api.Vec {
	return api.Vec{c.number(to), c.number(to), c.number(to)}
}

func copied(s api.State) api.State {
	r := api.State{Step: s.Step, B: make([]api.Body, len(s.B))}
	copy(r.B, s.B)
	return r
}

func alike(a, b api.State) bool {
	return a.Step == b.Step && slices.Equal(a.B, b.B)
}

// mays are states that may be.
func mays() []api.State {
	l := []api.State{
		{B: make([]api.Body, 1)}, {Step: far, B: make([]api.Body, 4)}, {Step: -far, B: make([]api.Body, 2)},
		{Step: 7, B: []api.Body{{X: api.Vec{box, -box, box}, V: api.Vec{top, top, -top}}}},
		{Step: 8, B: []api.Body{{X: api.Vec{box, -box, box}, V: api.Vec{-top, top, -top}}, {X: api.Vec{-box, box, 0}, V: api.Vec{1, -1, 0}}}},
	}
	seed := chance(15)
	for i := range 150 {
		s := api.State{Step: seed.number(far)}
		for range 1 + i%4 {
			s.B = append(s.B, api.Body{X: seed.vec([]int{5, 1000, box}[i%3]), V: seed.vec([]int{3, 100, top}[i/3%3])})
		}
		l = append(l, s)
	}
	return l
}

// mayNots are states that may not be, by one thing each.
func mayNots() []api.State {
	l := []api.State{{}, {Step: 1, B: []api.Body{}}, {B: make([]api.Body, 5)}, {B: make([]api.Body, 3000)}}
	for _, step := range []int{far + 1, -far - 1, math.MaxInt, math.MinInt} {
		l = append(l, api.State{Step: step, B: make([]api.Body, 2)})
	}
	for _, x := range []int{1, 2, 1 << 30, math.MaxInt - box} {
		for k := range 3 {
			for _, sign := range []int{1, -1} {
				s := api.State{Step: 5, B: make([]api.Body, 3)}
				s.B[k].X[k] = sign * (box + x)
				l = append(l, s)
				s = api.State{Step: 5, B: make([]api.Body, 3)}
				s.B[2-k].V[k] = sign * (top + x)
				l = append(l, s)
			}
		}
	}
	s := api.State{B: make([]api.Body, 2)}
	s.B[1].X[2] = math.MinInt
	return append(l, s)
}

// P15.1: what is a part: at each limit, and one beside it.
func TestPart(t *testing.T) {
	for _, p := range parts() {
		if !drift.Part(p.n, p.d) {
			t.Error(p)
		}
	}
	for _, p := range noParts() {
		if drift.Part(p.n, p.d) {
			t.Error(p)
		}
	}
}

// P15.1: by hand: the nearest, of two as near the one farther from 0.
func TestOneByHand(t *testing.T) {
	for _, c := range []struct{ v, n, d, want int }{
		{3, 1, 2, 2}, {-3, 1, 2, -2}, {3, -1, 2, -2}, {-3, -1, 2, 2}, {1, 1, 2, 1}, {-1, 1, 2, -1}, {0, 1, 2, 0}, {4, 1, 2, 2},
		{1, 1, 3, 0}, {2, 1, 3, 1}, {-2, 1, 3, -1}, {4, 1, 3, 1}, {5, 1, 3, 2}, {5, 0, 3, 0}, {1, 2, 4, 1}, {3, 2, 4, 2},
		{1, 1, most, 0}, {most / 2, 1, most, 1}, {most/2 - 1, 1, most, 0}, {-most / 2, 1, most, -1}, {-most/2 + 1, 1, most, 0},
		{1, most, most, 1}, {far, most, most, far}, {-far, most, most, -far}, {far, most, 1, 1 << 51}, {-far, most, 1, -1 << 51}, {far, -most, 1, -1 << 51},
		{1700, -8, 17, -800}, {1701, -8, 17, -800}, {1702, -8, 17, -801}, {10, 17, 4, 43}, {-10, 17, 4, -43},
	} {
		if got, e := drift.One(c.v, c.n, c.d); got != c.want || e != api.OK {
			t.Error(c, got, e)
		}
	}
}

// P15.1, P15.3: the nearest one, within half a unit; by 0 less n it is as much less.
func TestOne(t *testing.T) {
	seed := chance(5)
	values := []int{0, 1, -1, 2, far, -far, far - 1, -far + 1, top, -top}
	for range 40 {
		values = append(values, seed.number(far), seed.number(top), seed.number(20))
	}
	for _, p := range parts() {
		for _, v := range values {
			got, e := drift.One(v, p.n, p.d)
			if got != nearest(v, p.n, p.d) || e != api.OK {
				t.Error(v, p, got, e)
			}
			if off := 2 * (got*p.d - v*p.n); off > p.d || off < -p.d {
				t.Error(v, p, got)
			}
			if back, _ := drift.One(v, -p.n, p.d); back != -got {
				t.Error(v, p, got, back)
			}
		}
	}
}

// P15.1: no part, or too great a number: nothing.
func TestOneOfNone(t *testing.T) {
	for _, p := range noParts() {
		for _, v := range []int{0, 1, -5, far, far + 1, math.MinInt} {
			if got, e := drift.One(v, p.n, p.d); got != 0 || e != api.ErrArg {
				t.Error(v, p, got, e)
			}
		}
	}
	for _, v := range []int{far + 1, -far - 1, 1 << 31, 1 << 32, 1 << 62, math.MaxInt, math.MinInt} {
		for _, p := range []part{{0, 1}, {1, 1}, {1, most}, {most, 1}, {-most, most}} {
			if got, e := drift.One(v, p.n, p.d); got != 0 || e != api.ErrArg {
				t.Error(v, p, got, e)
			}
		}
	}
}

// P15.1: each part of a velocity by itself; noughts, if one can't be told.
func TestWay(t *testing.T) {
	if w, e := drift.Way(api.Vec{3, -3, 7}, 1, 2); w != (api.Vec{2, -2, 4}) || e != api.OK {
		t.Error(w, e)
	}
	seed := chance(9)
	for _, p := range parts() {
		for _, v := range []api.Vec{{}, {far, -far, 0}, {0, far, far}, seed.vec(far), seed.vec(top), seed.vec(9)} {
			if w, e := drift.Way(v, p.n, p.d); w != nearestWay(v, p) || e != api.OK {
				t.Error(v, p, w, e)
			}
		}
	}
	for _, p := range noParts() {
		if w, e := drift.Way(api.Vec{1, 2, 3}, p.n, p.d); w != (api.Vec{}) || e != api.ErrArg {
			t.Error(p, w, e)
		}
	}
	for i := range 3 {
		for _, x := range []int{far + 1, -far - 1, math.MaxInt, math.MinInt} {
			v := api.Vec{5, 6, 7}
			v[i] = x
			if w, e := drift.Way(v, 1, 2); w != (api.Vec{}) || e != api.ErrArg {
				t.Error(v, w, e)
			}
		}
	}
}

// P15.2: all drifts, in order.
func TestWays(t *testing.T) {
	for _, s := range mays() {
		for _, p := range parts() {
			l, e := drift.Ways(s, p.n, p.d)
			if len(l) != len(s.B) || e != api.OK {
				t.Fatal(s, p, l, e)
			}
			for i, b := range s.B {
				if l[i] != nearestWay(b.V, p) {
					t.Error(s, p, l)
				}
			}
		}
		for _, p := range noParts() {
			if l, e := drift.Ways(s, p.n, p.d); len(l) != 0 || e != api.ErrArg {
				t.Error(s, p, l, e)
			}
		}
	}
}

// P15.2: a state that may not be goes nowhere.
func TestOfNone(t *testing.T) {
	for _, s := range mayNots() {
		was := copied(s)
		for _, p := range []part{{0, 1}, {1, 2}, {-1, 1}, {most, 1}, {1, most}, {1, 0}, {most + 1, 1}} {
			if l, e := drift.Ways(s, p.n, p.d); len(l) != 0 || e != api.ErrArg {
				t.Error(s.Step, len(s.B), p, l, e)
			}
			if r, e := drift.Drift(s, p.n, p.d); !alike(r, was) || e != api.ErrArg {
				t.Error(s.Step, len(s.B), p, e)
			}
		}
	}
}

// P15.2: by hand: each place goes on, nothing else does.
func TestDriftByHand(t *testing.T) {
	s := api.State{Step: -9, B: []api.Body{{X: api.Vec{0, 10, -10}, V: api.Vec{4, 3, -3}}, {X: api.Vec{7, 7, 7}, V: api.Vec{0, 1, -1}}}}
	for _, c := range []struct {
		p    part
		a, b api.Vec
	}{
		{part{1, 2}, api.Vec{2, 12, -12}, api.Vec{7, 8, 6}},
		{part{-1, 2}, api.Vec{-2, 8, -8}, api.Vec{7, 6, 8}},
		{part{1, 1}, api.Vec{4, 13, -13}, api.Vec{7, 8, 6}},
		{part{0, 5}, api.Vec{0, 10, -10}, api.Vec{7, 7, 7}},
		{part{1, 4}, api.Vec{1, 11, -11}, api.Vec{7, 7, 7}},
		{part{100, 1}, api.Vec{400, 310, -310}, api.Vec{7, 107, -93}},
	} {
		want := copied(s)
		want.B[0].X, want.B[1].X = c.a, c.b
		if r, e := drift.Drift(s, c.p.n, c.p.d); !alike(r, want) || e != api.OK {
			t.Error(c, r, e)
		}
	}
	for _, p := range noParts() {
		if r, e := drift.Drift(s, p.n, p.d); !alike(r, s) || e != api.ErrArg {
			t.Error(p, r, e)
		}
	}
}

// P15.2: up to the box's end, and one beyond it, by each part of each body.
func TestDriftOver(t *testing.T) {
	for k := range 12 {
		for _, sign := range []int{1, -1} {
			for _, v := range []int{1, 2, 100, top} {
				s := api.State{Step: 2, B: make([]api.Body, 4)}
				b := &s.B[k/3]
				b.X[k%3], b.V[k%3] = sign*(box-v), sign*v
				want := copied(s)
				want.B[k/3].X[k%3] = sign * box
				if r, e := drift.Drift(s, 1, 1); !alike(r, want) || e != api.OK {
					t.Error(k, sign, v, e)
				}
				b.X[k%3] += sign
				for _, p := range []part{{1, 1}, {2, 1}, {most, 1}, {most, most}} {
					if r, e := drift.Drift(s, p.n, p.d); !alike(r, s) || e != api.ErrOver {
						t.Error(k, sign, v, p, e)
					}
				}
			}
		}
	}
	// A drift that is itself farther than any point may be.
	s := api.State{B: []api.Body{{V: api.Vec{1, 0, 0}}, {X: api.Vec{-box, 0, 0}, V: api.Vec{top, 0, 0}}}}
	for _, p := range []part{{most, 1}, {-most, 1}, {1 << 13, 1}, {1<<13 + 1, 1}} {
		if r, e := drift.Drift(s, p.n, p.d); !alike(r, s) || e != api.ErrOver {
			t.Error(p, r, e)
		}
	}
}

// moved is the state that a drift makes, by the chapter's words, and whether it may be.
func moved(s api.State, p part) (api.State, bool) {
	r, is := copied(s), true
	for i, b := range s.B {
		w := nearestWay(b.V, p)
		for k := range 3 {
			x := b.X[k] + w[k]
			r.B[i].X[k] = x
			is = is && -box <= x && x <= box
		}
	}
	return r, is
}

// P15.2, P15.3: of states of all kinds; the drift of 0 less n takes it back.
func TestDrift(t *testing.T) {
	done, over := 0, 0
	for _, s := range mays() {
		for _, p := range parts() {
			want, is := moved(s, p)
			r, e := drift.Drift(s, p.n, p.d)
			if !is {
				over++
				if !alike(r, s) || e != api.ErrOver {
					t.Error(s, p, r, e)
				}
				continue
			}
			done++
			if !alike(r, want) || e != api.OK {
				t.Error(s, p, r, e)
			}
			if back, e := drift.Drift(r, -p.n, p.d); !alike(back, s) || e != api.OK {
				t.Error(s, p, back, e)
			}
		}
	}
	if done < 1000 || over < 500 {
		t.Error(done, over)
	}
}

// P15.3: bodies go on each by itself: in another order, and one alone.
func TestDriftEach(t *testing.T) {
	for _, s := range mays() {
		for _, p := range []part{{1, 2}, {-1, 3}, {1351207, 2000000}, {5, 1}} {
			r, e := drift.Drift(s, p.n, p.d)
			if e != api.OK {
				continue
			}
			other := copied(s)
			slices.Reverse(other.B)
			o, _ := drift.Drift(other, p.n, p.d)
			slices.Reverse(o.B)
			if !alike(o, r) {
				t.Error(s, p, o)
			}
			for i, b := range s.B {
				alone, e := drift.Drift(api.State{Step: s.Step, B: []api.Body{b}}, p.n, p.d)
				if e != api.OK || alone.B[0] != r.B[i] {
					t.Error(s, p, i, alone, e)
				}
			}
		}
	}
}

// R3, R4: nothing that is handed in is changed, spare room included; what is told is nobody else's.
func TestOwnMemory(t *testing.T) {
	room := []api.Body{{X: api.Vec{1, 2, 3}, V: api.Vec{4, 5, 6}}, {X: api.Vec{7, 8, 9}, V: api.Vec{9, 9, 9}}, {X: api.Vec{8, 8, 8}, V: api.Vec{7, 7, 7}}}
	was := slices.Clone(room)
	for n := range 4 {
		s := api.State{Step: 5, B: room[:n]}
		for _, p := range []part{{1, 1}, {0, 1}, {most, 1}, {1, 0}} {
			for range 2 {
				l, e := drift.Ways(s, p.n, p.d)
				again, _ := drift.Ways(s, p.n, p.d)
				for i := range l {
					l[i] = api.Vec{-1, -1, -1}
					if again[i] != nearestWay(was[i].V, p) {
						t.Error(n, p, again)
					}
				}
				_ = append(l, api.Vec{})
				r, _ := drift.Drift(s, p.n, p.d)
				other, _ := drift.Drift(s, p.n, p.d)
				kept := copied(other)
				for i := range r.B {
					r.B[i] = api.Body{}
				}
				_ = append(r.B, api.Body{})
				if !slices.Equal(room, was) || !alike(other, kept) {
					t.Fatal(n, p, e, room)
				}
			}
		}
	}
}
