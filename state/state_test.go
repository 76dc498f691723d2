package state_test

import (
	"math"
	"math/big"
	"slices"
	"testing"

	"gyre/api"
	"gyre/state"
)

const (
	box = 1 << 20
	top = 1 << 16
	far = 1 << 30
)

// of is a state of bodies whose numbers are told, six each.
func of(step int, l ...[6]int) api.State {
	s := api.State{Step: step}
	for _, n := range l {
		s.B = append(s.B, api.Body{X: api.Vec{n[0], n[1], n[2]}, V: api.Vec{n[3], n[4], n[5]}})
	}
	return s
}

// many is a state of so many bodies, all of which are others.
func many(n int) api.State {
	s := api.State{Step: 9}
	for i := range n {
		s.B = append(s.B, api.Body{X: api.Vec{7 * i, -i, 3}, V: api.Vec{i, 2, -5 * i}})
	}
	return s
}

// at is where the k-th number of all bodies stands: of each body six.
func at(s api.State, k int) *int {
	b := &s.B[k/6]
	if k%6 < 3 {
		return &b.X[k%3]
	}
	return &b.V[k%3]
}

// copied is another state just as s, by a way of the test's own.
func copied(s api.State) api.State {
	r := api.State{Step: s.Step, B: make([]api.Body, len(s.B))}
	copy(r.B, s.B)
	return r
}

// with is s with its k-th number put otherwise.
func with(s api.State, k, x int) api.State {
	s = copied(s)
	*at(s, k) = x
	return s
}

// alike asks all of two states, number by number.
func alike(a, b api.State) bool {
	if a.Step != b.Step || len(a.B) != len(b.B) {
		return false
	}
	for k := range 6 * len(a.B) {
		if *at(a, k) != *at(b, k) {
			return false
		}
	}
	return true
}

// right tells by the chapter's own words whether a state may be.
func right(s api.State) bool {
	if s.Step < -far || s.Step > far || len(s.B) < 1 || len(s.B) > 4 {
		return false
	}
	return inside(s, box, top)
}

func inside(s api.State, box, top int) bool {
	for k := range 6 * len(s.B) {
		most := box
		if k%6 > 2 {
			most = top
		}
		if x := *at(s, k); most < 0 || x > most || x < -most {
			return false
		}
	}
	return true
}

// chance tells numbers by a rule that is the same each time.
type chance uint64

func (c *chance) next() uint64 {
	*c ^= *c << 13
	*c ^= *c >> 7
	*c ^= *c << 17
	return uint64(*c)
}

// number is of any size up to to, either way.
func (c *chance) number(to int) int {
	x := int(c.next() % uint64(to+1))
	switch c.next() % 4 {
	case 0:
		x >>= c.next() % 20
	case 1:
		x = to - x>>(c.next()%20)
	}
	if c.next()%2 == 0 {
		return -x
	}
	return x
}

func (c *chance) state(bodies, step, box, top int) api.State {
	s := api.State{Step: c.number(step), B: make([]api.Body, bodies)}
	for k := range 6 * bodies {
		if *at(s, k) = c.number(box); k%6 > 2 {
			*at(s, k) = c.number(top)
		}
	}
	return s
}

// mays are states that may be, edges among them.
func mays() []api.State {
	l := []api.State{
		of(0, [6]int{}),
		of(3, [6]int{1, 2, 3, 4, 5, 6}),
		of(-far, [6]int{box, box, box, top, top, top}),
		of(far, [6]int{-box, -box, -box, -top, -top, -top}),
		of(1, [6]int{box, -box, 0, 0, top, -top}, [6]int{-box, 0, box, top, -top, 0}),
		of(-1, [6]int{5, 5, 5, 1, 1, 1}, [6]int{5, 5, 5, 1, 1, 1}, [6]int{5, 5, 5, 1, 1, 1}, [6]int{5, 5, 5, 1, 1, 1}),
		many(2), many(3), many(4),
	}
	for k := range 24 {
		most := box
		if k%6 > 2 {
			most = top
		}
		l = append(l, with(many(4), k, most), with(many(4), k, -most))
	}
	seed := chance(3)
	for i := range 200 {
		l = append(l, seed.state(1+i%4, far, box, top))
	}
	return l
}

// mayNots are states that may not be.
func mayNots() []api.State {
	l := []api.State{{}, {B: []api.Body{}}, {Step: 5}, many(5), many(6), many(50), of(math.MinInt), {B: make([]api.Body, 100_000)}}
	for _, step := range []int{far + 1, -far - 1, 1 << 31, -1 << 32, 1 << 32, math.MaxInt, math.MinInt} {
		for n := 1; n <= 4; n++ {
			s := many(n)
			s.Step = step
			l = append(l, s)
		}
	}
	for n := 1; n <= 4; n++ {
		for k := range 6 * n {
			most := box
			if k%6 > 2 {
				most = top
			}
			for _, x := range []int{most + 1, -most - 1, 2 * most, 1 << 32, -1 << 32, 1<<32 + 1, math.MaxInt, math.MinInt, math.MinInt + 1} {
				l = append(l, with(many(n), k, x))
			}
		}
	}
	return l
}

func all() []api.State { return slices.Concat(mays(), mayNots()) }

// P10.1: what may be, and what may not, by one number alone.
func TestRight(t *testing.T) {
	for _, s := range mays() {
		if !state.Right(s) {
			t.Error(s)
		}
	}
	for i, s := range mayNots() {
		if state.Right(s) {
			t.Error(i, s.Step, len(s.B))
		}
	}
	for _, s := range all() {
		if state.Right(s) != right(s) {
			t.Error(s.Step, len(s.B))
		}
	}
}

// P10.1: places are held against the box, velocities against the top speed, and not the other way about.
func TestWithin(t *testing.T) {
	three := of(0, [6]int{1, -2, 3, 10, -20, 30}, [6]int{0, 0, -4, 0, 40, 0}, [6]int{2, 2, 2, 2, 2, 2})
	for _, c := range []struct {
		s        api.State
		box, top int
		want     bool
	}{
		{three, 4, 40, true}, {three, 3, 40, false}, {three, 4, 39, false}, {three, 40, 4, false}, {three, 100, 100, true},
		{three, math.MaxInt, math.MaxInt, true}, {three, -4, 40, false}, {three, 4, -40, false}, {three, -4, -40, false},
		{three, math.MinInt, math.MaxInt, false}, {three, math.MaxInt, math.MinInt, false}, {three, 0, 40, false}, {three, 4, 0, false},
		{of(0, [6]int{}), 0, 0, true}, {of(0, [6]int{}), -1, 0, false}, {of(0, [6]int{}), 0, -1, false},
		{of(0, [6]int{math.MinInt}), math.MaxInt, 0, false}, {of(0, [6]int{math.MinInt + 1}), math.MaxInt, 0, true},
		{of(0, [6]int{0, 0, 0, 0, 0, math.MinInt}), 0, math.MaxInt, false}, {of(0, [6]int{0, 0, 0, 0, 0, -math.MaxInt}), 0, math.MaxInt, true},
		{of(0, [6]int{-1, -1, -1, -1, -1, -1}), math.MinInt, math.MinInt, false},
		// Neither Step nor how many bodies there are is asked.
		{of(math.MinInt, [6]int{1, 1, 1, 2, 2, 2}), 1, 2, true}, {of(far+1, [6]int{1, 1, 1, 2, 2, 2}), 1, 1, false},
		{api.State{}, 0, 0, true}, {api.State{}, -1, -1, true}, {api.State{Step: math.MaxInt, B: []api.Body{}}, math.MinInt, math.MinInt, true},
		{api.State{B: make([]api.Body, 1000)}, 0, 0, true}, {with(many(50), 299, 77777), 1000, 77777, true}, {with(many(50), 299, 77777), 1000, 77776, false},
	} {
		if got := state.Within(c.s, c.box, c.top); got != c.want {
			t.Errorf("Within(%v, %d, %d) = %v", c.s, c.box, c.top, got)
		}
	}
}

// P10.1: each number of each body is asked.
func TestWithinEach(t *testing.T) {
	bounds := []int{-1, 0, 1, 2, 100, top - 1, top, box - 1, box, 1 << 32, math.MaxInt, math.MinInt}
	for _, s := range all() {
		if len(s.B) > 50 {
			continue
		}
		for _, b := range bounds {
			for _, c := range bounds {
				if got := state.Within(s, b, c); got != inside(s, b, c) {
					t.Fatalf("Within(%v, %d, %d) = %v", s, b, c, got)
				}
			}
		}
	}
}

// P10.1: what is one's own is the same in all, and nothing that is done to one is done to the other.
func TestOwn(t *testing.T) {
	for _, s := range all() {
		was := copied(s)
		own := state.Own(s)
		if !alike(own, was) || !alike(s, was) {
			t.Fatal(s, own)
		}
		if len(s.B) == 0 {
			continue
		}
		for k := range 6 * min(len(s.B), 4) {
			*at(own, k)++
			if *at(s, k) != *at(was, k) {
				t.Fatal(k, s, own)
			}
		}
		own = state.Own(s)
		*at(s, 0)++
		s.B[len(s.B)-1].V[2]++
		if !alike(own, was) {
			t.Fatal(s, own)
		}
	}
}

// P10.1: the same in all, but where it makes no odds: no list and an empty one are the same, and spare room is nobody's.
func TestSame(t *testing.T) {
	four := many(4)
	if !state.Same(four, copied(four)) || !state.Same(four, four) {
		t.Error(four)
	}
	for _, x := range []int{-1, 1, 1 << 32, math.MinInt} {
		other := copied(four)
		other.Step += x
		if state.Same(four, other) || state.Same(other, four) {
			t.Error(x)
		}
		for k := range 24 {
			other := with(four, k, *at(four, k)+x)
			if state.Same(four, other) || state.Same(other, four) {
				t.Error(k, x)
			}
		}
	}
	for n := range 6 {
		for m := range 6 {
			if state.Same(many(n), many(m)) != (n == m) {
				t.Error(n, m)
			}
			short := api.State{Step: 9, B: many(5).B[:min(n, 5)]}
			if state.Same(short, many(m)) != (n == m) {
				t.Error(n, m)
			}
		}
	}
	if !state.Same(api.State{}, api.State{B: []api.Body{}}) || !state.Same(api.State{Step: 2, B: four.B[:0]}, api.State{Step: 2}) {
		t.Error("none")
	}
	turned := api.State{Step: 9, B: []api.Body{four.B[1], four.B[0], four.B[2], four.B[3]}}
	if state.Same(four, turned) || state.Same(of(0, [6]int{1, 2, 3, 4, 5, 6}), of(0, [6]int{4, 5, 6, 1, 2, 3})) {
		t.Error("another order")
	}
	for _, s := range mayNots() {
		if !state.Same(s, copied(s)) {
			t.Error(s.Step, len(s.B))
		}
	}
}

// P10.2: rows by hand, both ways.
func TestRowsByHand(t *testing.T) {
	for _, c := range []struct {
		s api.State
		l []int
	}{
		{of(0, [6]int{}), []int{0, 1, 0, 0, 0, 0, 0, 0}},
		{of(-7, [6]int{1, 2, 3, 4, 5, 6}), []int{-7, 1, 1, 2, 3, 4, 5, 6}},
		{of(far, [6]int{box, -box, 1, top, -top, 2}, [6]int{-1, -2, -3, -4, -5, -6}), []int{far, 2, box, -box, 1, top, -top, 2, -1, -2, -3, -4, -5, -6}},
		{of(-far, [6]int{1}, [6]int{2}, [6]int{3}), []int{-far, 3, 1, 0, 0, 0, 0, 0, 2, 0, 0, 0, 0, 0, 3, 0, 0, 0, 0, 0}},
		{of(4, [6]int{0, 1}, [6]int{0, 0, 2}, [6]int{0, 0, 0, 3}, [6]int{0, 0, 0, 0, 0, 4}), []int{4, 4, 0, 1, 0, 0, 0, 0, 0, 0, 2, 0, 0, 0, 0, 0, 0, 3, 0, 0, 0, 0, 0, 0, 0, 4}},
	} {
		if l, e := state.Row(c.s); !slices.Equal(l, c.l) || e != api.OK {
			t.Error(c.s, l, e)
		}
		if s, e := state.Of(c.l); !alike(s, c.s) || e != api.OK {
			t.Error(c.l, s, e)
		}
	}
}

// P10.2: no row, and nothing beside the error, of a state that may not be.
func TestRowOfNone(t *testing.T) {
	for _, s := range mayNots() {
		if l, e := state.Row(s); l != nil || e != api.ErrArg {
			t.Error(s.Step, len(s.B), l, e)
		}
	}
}

func none(t *testing.T, l []int) {
	t.Helper()
	if s, e := state.Of(l); s.Step != 0 || s.B != nil || e != api.ErrArg {
		t.Error(len(l), l[:min(len(l), 30)], s, e)
	}
}

// P10.2: lists that are no state's row: too short, too long, with a count that is another one.
func TestOfNoRow(t *testing.T) {
	for n := range 70 {
		for _, count := range []int{-1, 0, 1, 2, 3, 4, 5, 6, 10, 11} {
			l := make([]int, n)
			if n > 1 {
				l[1] = count
			}
			if n == 2+6*count && count >= 1 && count <= 4 {
				if s, e := state.Of(l); e != api.OK || len(s.B) != count {
					t.Error(n, count, s, e)
				}
				continue
			}
			none(t, l)
		}
	}
	none(t, nil)
	for bodies := range 12 {
		// Counts that, six times, would go round to the length.
		for _, count := range []int{bodies + math.MinInt, bodies - 1<<62, bodies + 1<<62, bodies + 1<<32, bodies + 1<<8, -bodies, math.MaxInt, math.MinInt} {
			l := make([]int, 2+6*bodies)
			if l[1] = count; count != bodies {
				none(t, l)
			}
		}
	}
	long := make([]int, 2+6*100_000)
	none(t, long)
	long[1] = 100_000
	none(t, long)
}

// P10.2: rows of what would be no state that may be, by one number alone.
func TestOfNoState(t *testing.T) {
	for _, s := range mayNots() {
		l := []int{s.Step, len(s.B)}
		for k := range 6 * len(s.B) {
			l = append(l, *at(s, k))
		}
		none(t, l)
	}
}

// P10.3: turned about by hand, of states that may not be, too; -2^63 stays.
func TestTurned(t *testing.T) {
	for _, c := range []struct{ s, want api.State }{
		{of(5, [6]int{1, 2, 3, 4, -5, 6}), of(-5, [6]int{1, 2, 3, -4, 5, -6})},
		{of(-far, [6]int{1, 2, 3, 4, 5, 0}, [6]int{-1, 0, 1, -1, 0, 1}), of(far, [6]int{1, 2, 3, -4, -5, 0}, [6]int{-1, 0, 1, 1, 0, -1})},
		{of(math.MinInt, [6]int{math.MinInt, math.MaxInt, 0, math.MinInt, math.MaxInt, -math.MaxInt}), of(math.MinInt, [6]int{math.MinInt, math.MaxInt, 0, math.MinInt, -math.MaxInt, math.MaxInt})},
		{of(math.MaxInt, [6]int{0, 0, 0, 1, math.MinInt, 1}), of(-math.MaxInt, [6]int{0, 0, 0, -1, math.MinInt, -1})},
		{api.State{}, api.State{}}, {of(3), of(-3)},
	} {
		if got := state.Turned(c.s); !alike(got, c.want) {
			t.Error(c.s, got)
		}
	}
	for _, s := range all() {
		got := state.Turned(s)
		if got.Step != 0-s.Step || len(got.B) != len(s.B) {
			t.Fatal(s.Step, len(s.B), got.Step, len(got.B))
		}
		for i, b := range s.B {
			if v := got.B[i].V; got.B[i].X != b.X || v != (api.Vec{0 - b.V[0], 0 - b.V[1], 0 - b.V[2]}) {
				t.Fatal(i, b, got.B[i])
			}
		}
	}
}

// P10.3: what is turned about is told in memory of its own.
func TestTurnedIsOwn(t *testing.T) {
	for _, s := range all() {
		was := copied(s)
		turned := state.Turned(s)
		if !alike(s, was) {
			t.Fatal(s.Step, len(s.B))
		}
		for i := range turned.B {
			turned.B[i] = api.Body{X: api.Vec{1, 2, 3}, V: api.Vec{77, 78, 79}}
		}
		if !alike(s, was) {
			t.Fatal(s.Step, len(s.B))
		}
	}
}

// P10.3: the least square by hand: velocities make no odds.
func TestLeast(t *testing.T) {
	for _, c := range []struct {
		s    api.State
		want int
	}{
		{of(0, [6]int{}, [6]int{3, 0, 4}), 25},
		{of(0, [6]int{3, 0, 4, 1, 1, 1}, [6]int{0, 0, 0, 1, 1, 1}), 25},
		{of(0, [6]int{7, 8, 9, 1, 0, 0}, [6]int{7, 8, 9, 0, 0, 5}), 0},
		{of(0, [6]int{box, box, box}, [6]int{-box, -box, -box}), 3 << 42},
		{of(0, [6]int{0, -box, 0}, [6]int{0, box, 0}), 1 << 42},
		{of(0, [6]int{1, 2, 3}, [6]int{-4, 6, 10}), 25 + 16 + 49},
		{of(0, [6]int{}, [6]int{10}, [6]int{13}), 9},
		{of(0, [6]int{}, [6]int{10}, [6]int{-3}), 9},
		{of(0, [6]int{10}, [6]int{}, [6]int{-30}), 100},
		{of(0, [6]int{}, [6]int{5}, [6]int{0, 5}, [6]int{0, 0, 5}), 25},
		{of(0, [6]int{}, [6]int{}, [6]int{0, 5}, [6]int{0, 5}), 0},
	} {
		if n, is := state.Least(c.s); n != c.want || !is {
			t.Error(c.s, n, is)
		}
	}
}

// P10.3: of each two bodies the way may be the least one.
func TestLeastOfEachPair(t *testing.T) {
	for n := 2; n <= 4; n++ {
		for i := range n {
			for j := range i {
				s := of(0, [6]int{0, 0, 1}, [6]int{1000, 0, 2}, [6]int{0, 5000, 3}, [6]int{0, 0, box})
				s.B = s.B[:n]
				s.B[i].X = s.B[j].X
				s.B[i].X[(i+j)%3] += 2
				if got, is := state.Least(s); got != 4 || !is {
					t.Error(n, i, j, got, is)
				}
			}
		}
	}
}

// P10.3: the least of all ways, by great numbers.
func TestLeastByGreatNumbers(t *testing.T) {
	for _, s := range mays() {
		var want *big.Int
		for i, a := range s.B {
			for _, b := range s.B[:i] {
				n := new(big.Int)
				for k := range 3 {
					d := new(big.Int).Sub(big.NewInt(int64(a.X[k])), big.NewInt(int64(b.X[k])))
					n.Add(n, d.Mul(d, d))
				}
				if want == nil || n.Cmp(want) < 0 {
					want = n
				}
			}
		}
		got, is := state.Least(s)
		if is != (want != nil) || is && big.NewInt(int64(got)).Cmp(want) != 0 || !is && got != 0 {
			t.Error(s, got, is, want)
		}
	}
}

// P10.3: no way, of one body alone and of states that may not be.
func TestLeastOfNone(t *testing.T) {
	for _, s := range slices.Concat(mayNots(), []api.State{many(1), of(far, [6]int{box, box, box, top, top, top})}) {
		if n, is := state.Least(s); n != 0 || is {
			t.Error(s.Step, len(s.B), n, is)
		}
	}
}

// P10.4: rows and states tell each other.
func TestRowsAndStates(t *testing.T) {
	for _, s := range mays() {
		l, e := state.Row(s)
		if e != api.OK || len(l) != 2+6*len(s.B) {
			t.Fatal(s, l, e)
		}
		back, e := state.Of(l)
		if e != api.OK || !state.Same(back, s) || !alike(back, s) {
			t.Error(s, l, back, e)
		}
		again, e := state.Row(back)
		if e != api.OK || !slices.Equal(again, l) {
			t.Error(l, again, e)
		}
		// Another row is another state's, or nobody's.
		for k := range l {
			other := slices.Clone(l)
			other[k]++
			if r, e := state.Of(other); e == api.OK && state.Same(r, s) {
				t.Error(l, other)
			}
		}
	}
}

// P10.4: turned and turned again a state is what it was, and may be just if it may.
func TestTurnedTwice(t *testing.T) {
	for _, s := range all() {
		once := state.Turned(s)
		if twice := state.Turned(once); !state.Same(twice, s) || !alike(twice, s) {
			t.Error(s.Step, len(s.B))
		}
		if state.Right(once) != state.Right(s) {
			t.Error(s.Step, len(s.B))
		}
		n, is := state.Least(s)
		if m, also := state.Least(once); m != n || also != is {
			t.Error(s.Step, len(s.B), n, m)
		}
	}
}

// P10.4: what may be is within the greatest box and speed, and any greater ones.
func TestRightIsWithin(t *testing.T) {
	for _, s := range mays() {
		for _, more := range []int{0, 1, 1 << 20, 1 << 40, math.MaxInt - box} {
			if !state.Within(s, box+more, top) || !state.Within(s, box, top+more) || !state.Within(s, box+more, top+more) {
				t.Error(s, more)
			}
		}
	}
}

// R4: what is handed in stays as it is, spare room behind it included, and answers are new memory.
func TestNothingIsChanged(t *testing.T) {
	room := many(8).B
	was := slices.Clone(room)
	for n := range 5 {
		s := api.State{Step: 3, B: room[:n]}
		own, turned := state.Own(s), state.Turned(s)
		state.Row(s)
		state.Least(s)
		state.Right(s)
		state.Within(s, 5, 5)
		state.Same(s, own)
		own.B = append(own.B, api.Body{X: api.Vec{99, 99, 99}})
		turned.B = append(turned.B, api.Body{V: api.Vec{98, 98, 98}})
		if !slices.Equal(room, was) || state.Same(own, turned) {
			t.Fatal(n, room)
		}
	}
}

// R4: rows, and states of rows, share nothing with what they came of, or with each other.
func TestRowsAreOwn(t *testing.T) {
	s := many(3)
	l, _ := state.Row(s)
	other, _ := state.Row(s)
	first, _ := state.Of(l)
	second, _ := state.Of(l)
	kept := slices.Clone(l)
	for k := range 18 {
		*at(first, k) += 1000
	}
	if !slices.Equal(l, kept) || !alike(second, many(3)) {
		t.Error(l, second)
	}
	for i := range l {
		l[i] = -77
	}
	if !alike(s, many(3)) || !alike(second, many(3)) || !slices.Equal(other, kept) {
		t.Error(s, second, other)
	}
	room := append(slices.Clone(kept), 5, 6, 7, 8)
	r, e := state.Of(room[:len(kept)])
	r.B = append(r.B, api.Body{X: api.Vec{1, 1, 1}})
	if e != api.OK || !slices.Equal(room, append(slices.Clone(kept), 5, 6, 7, 8)) {
		t.Error(room, e)
	}
}

// R3: no call hangs on what was called before.
func TestNothingIsKept(t *testing.T) {
	type answers struct {
		row           []int
		least         int
		right, within bool
		is            bool
		e             api.Errno
		turned, own   api.State
	}
	ask := func(s api.State) (r answers) {
		r.row, r.e = state.Row(s)
		r.least, r.is = state.Least(s)
		r.right, r.within = state.Right(s), state.Within(s, 100, 100)
		r.turned, r.own = state.Turned(s), state.Own(s)
		return r
	}
	l := all()
	var first []answers
	for _, s := range l {
		first = append(first, ask(s))
	}
	for i := len(l) - 1; i >= 0; i-- {
		a, b := first[i], ask(l[i])
		if !slices.Equal(a.row, b.row) || a.least != b.least || a.right != b.right || a.within != b.within || a.is != b.is || a.e != b.e || !alike(a.turned, b.turned) || !alike(a.own, b.own) {
			t.Error(i, l[i].Step, len(l[i].B))
		}
	}
}
