package conf_test

import (
	"math"
	"slices"
	"testing"

	"gyre/api"
	"gyre/conf"
)

const (
	most   = 4
	heavy  = 1 << 10
	strong = 1 << 20
	box    = 1 << 20
	top    = 1 << 16
)

// of is a configuration of its five numbers, and its masses.
func of(g, box, top, near, method int, mass ...int) api.Conf {
	return api.Conf{Mass: mass, G: g, Box: box, Top: top, Near: near, Method: method}
}

// plain is a configuration of so many masses, all of whose numbers are others.
func plain(n int) api.Conf {
	c := of(50, 1000, 300, 20, 4)
	for i := range n {
		c.Mass = append(c.Mass, 7+i)
	}
	return c
}

// five are the numbers of c beside its masses.
func five(c *api.Conf) []*int {
	return []*int{&c.G, &c.Box, &c.Top, &c.Near, &c.Method}
}

// with is c with its k-th number put otherwise: the five first, then the masses.
func with(c api.Conf, k, x int) api.Conf {
	c = copied(c)
	*at(&c, k) = x
	return c
}

func at(c *api.Conf, k int) *int {
	if k < 5 {
		return five(c)[k]
	}
	return &c.Mass[k-5]
}

// copied is another configuration just as c, by a way of the test's own.
func copied(c api.Conf) api.Conf {
	l := make([]int, len(c.Mass))
	copy(l, c.Mass)
	c.Mass = l
	return c
}

// alike asks all of two configurations, number by number.
func alike(a, b api.Conf) bool {
	if len(a.Mass) != len(b.Mass) {
		return false
	}
	for k := range 5 + len(a.Mass) {
		if *at(&a, k) != *at(&b, k) {
			return false
		}
	}
	return true
}

// why tells by the chapter's own words what is not so.
func why(c api.Conf) string {
	if len(c.Mass) == 0 || len(c.Mass) > most {
		return "bodies"
	}
	for _, m := range c.Mass {
		if m < 1 || m > heavy {
			return "mass"
		}
	}
	switch {
	case c.G < 1 || c.G > strong:
		return "constant"
	case c.Box < 1 || c.Box > box:
		return "box"
	case c.Top < 1 || c.Top > top:
		return "top"
	case c.Near < 1 || c.Near > 2*c.Box:
		return "near"
	case c.Method < 0 || c.Method > 4:
		return "method"
	}
	return ""
}

// mays are configurations that may be, edges among them.
func mays() []api.Conf {
	l := []api.Conf{
		of(1, 1, 1, 1, 0, 1),
		of(1, 1, 1, 2, 0, 1, 1),
		of(strong, box, top, 2*box, 4, heavy, heavy, heavy, heavy),
		of(strong, box, top, 1, 4, 1, heavy),
		of(3, 5, 7, 10, 2, 11, 13, 17),
		of(math.MaxInt>>43, 1<<19, 1<<15, 1<<20, 3, 1, 2, 3, 4),
	}
	for n := 1; n <= most; n++ {
		for method := range 5 {
			l = append(l, with(plain(n), 4, method))
		}
		for k, edge := range []int{strong, box, top, 2 * 1000} {
			l = append(l, with(plain(n), k, edge))
		}
		l = append(l, with(plain(n), 0, 1), with(plain(n), 1, 10), with(plain(n), 2, 1), with(plain(n), 3, 1))
		for i := range n {
			l = append(l, with(plain(n), 5+i, 1), with(plain(n), 5+i, heavy))
		}
	}
	return l
}

// odd are numbers that are nothing's.
func odd() []int {
	return []int{0, -1, -heavy, -strong, 1 << 32, 1<<32 + 1, -1 << 32, 1<<62 + 1, math.MaxInt, math.MaxInt - 1, math.MinInt, math.MinInt + 1}
}

// mayNots are configurations that may not be.
func mayNots() []api.Conf {
	l := []api.Conf{{}, {Mass: []int{}}, plain(0), plain(5), plain(6), plain(50), {Mass: make([]int, 100_000)}, {Mass: make([]int, 4)}}
	for n := 1; n <= most; n++ {
		for k, x := range []int{strong + 1, box + 1, top + 1, 2*1000 + 1, 5} {
			l = append(l, with(plain(n), k, x))
			for _, x := range odd() {
				if k != 4 || x != 0 {
					l = append(l, with(plain(n), k, x))
				}
			}
		}
		for i := range n {
			for _, x := range append(odd(), heavy+1) {
				l = append(l, with(plain(n), 5+i, x))
			}
		}
		// A box whose double goes round; a way that is too great for its own box, though not for another.
		l = append(l, with(with(plain(n), 1, 1<<62+5), 3, 10), with(plain(n), 1, 9), with(plain(n), 3, 2*box))
	}
	return append(l, of(1, 1, 1, 3, 0, 1), of(1, box, 1, 2*box+1, 0, 1))
}

func all() []api.Conf { return slices.Concat(mays(), mayNots()) }

// P11.1: what may be, and what may not, by one number alone.
func TestCheck(t *testing.T) {
	for _, c := range mays() {
		if e, s := conf.Check(c), conf.Why(c); e != api.OK || s != "" {
			t.Error(c, e, s)
		}
	}
	for i, c := range mayNots() {
		if e, s := conf.Check(c), conf.Why(c); e != api.ErrConf || s == "" {
			t.Error(i, e, s)
		}
	}
	for _, c := range all() {
		if got := conf.Why(c); got != why(c) {
			t.Error(c, got)
		}
	}
}

// P11.1: names by hand, at each limit and one beyond it.
func TestWhy(t *testing.T) {
	for _, c := range []struct {
		c    api.Conf
		want string
	}{
		{api.Conf{}, "bodies"}, {plain(0), "bodies"}, {plain(1), ""}, {plain(4), ""}, {plain(5), "bodies"},
		{with(plain(2), 5, 0), "mass"}, {with(plain(2), 6, 0), "mass"}, {with(plain(2), 6, 1024), ""}, {with(plain(2), 6, 1025), "mass"}, {with(plain(4), 8, -3), "mass"},
		{with(plain(2), 0, 0), "constant"}, {with(plain(2), 0, 1), ""}, {with(plain(2), 0, 1048576), ""}, {with(plain(2), 0, 1048577), "constant"},
		{with(plain(2), 1, 0), "box"}, {with(plain(2), 1, 1048576), ""}, {with(plain(2), 1, 1048577), "box"},
		{with(plain(2), 2, 0), "top"}, {with(plain(2), 2, 1), ""}, {with(plain(2), 2, 65536), ""}, {with(plain(2), 2, 65537), "top"},
		{with(plain(2), 3, 0), "near"}, {with(plain(2), 3, 1), ""}, {with(plain(2), 3, 2000), ""}, {with(plain(2), 3, 2001), "near"},
		{with(plain(2), 4, -1), "method"}, {with(plain(2), 4, 0), ""}, {with(plain(2), 4, 4), ""}, {with(plain(2), 4, 5), "method"},
	} {
		e := api.OK
		if c.want != "" {
			e = api.ErrConf
		}
		if got := conf.Why(c.c); got != c.want || conf.Check(c.c) != e {
			t.Errorf("Why(%v) = %q", c.c, got)
		}
	}
}

// P11.1: of all that is not so the first is told, whatever else is not.
func TestWhyInOrder(t *testing.T) {
	for faults := range 1 << 7 {
		c := plain(3)
		if faults&1 != 0 {
			c = plain(5)
		}
		if faults&2 != 0 {
			c.Mass[len(c.Mass)-1] = 0
		}
		for k, x := range []int{0, box + 1, top + 1, math.MinInt, math.MaxInt} {
			if faults&(4<<k) != 0 {
				*five(&c)[k] = x
			}
		}
		want := ""
		for k, name := range []string{"bodies", "mass", "constant", "box", "top", "near", "method"} {
			if want == "" && faults&(1<<k) != 0 {
				want = name
			}
		}
		if got := conf.Why(c); got != want {
			t.Errorf("%b: %q", faults, got)
		}
	}
}

// P11.1: what is one's own is the same in all, and nothing that is done to one is done to the other.
func TestOwn(t *testing.T) {
	for _, c := range all() {
		was := copied(c)
		own := conf.Own(c)
		if !alike(own, was) || !alike(c, was) {
			t.Fatal(c, own)
		}
		for i := range own.Mass {
			own.Mass[i]++
		}
		if !alike(c, was) {
			t.Fatal(c, own)
		}
		own = conf.Own(c)
		for i := range c.Mass {
			c.Mass[i]++
		}
		if !alike(own, was) {
			t.Fatal(c, own)
		}
	}
}

// room is c with spare room behind its masses, in which there are other numbers; and all of that room.
func room(c api.Conf) (api.Conf, []int) {
	l := append(slices.Clone(c.Mass), -11, -12, -13, -14, -15, -16, -17, -18)
	c.Mass = l[:len(c.Mass)]
	return c, l
}

// R4: spare room behind what is handed in is neither changed nor told, and nothing is handed out of it.
func TestSpareRoom(t *testing.T) {
	for _, c := range all() {
		if len(c.Mass) > 50 {
			continue
		}
		c, l := room(c)
		was := slices.Clone(l)
		own := conf.Own(c)
		if !alike(own, c) || !conf.Same(own, c) {
			t.Fatal(c, own)
		}
		_ = append(own.Mass, 1, 2, 3)
		row, _ := conf.Row(c)
		_ = append(row, 1, 2, 3)
		if conf.Why(c) != why(c) || !slices.Equal(l, was) {
			t.Fatal(c, l)
		}
		given, spare := room(api.Conf{Mass: row})
		was = slices.Clone(spare)
		got, e := conf.Of(given.Mass)
		if e == api.OK {
			_ = append(got.Mass, 5, 6, 7, 8, 9)
			got.Mass[0]++
		}
		if !slices.Equal(spare, was) {
			t.Fatal(spare)
		}
	}
}

// P11.1: the same in all, but where it makes no odds: no list and an empty one are the same.
func TestSame(t *testing.T) {
	four := plain(4)
	if !conf.Same(four, copied(four)) || !conf.Same(four, four) {
		t.Error(four)
	}
	for k := range 9 {
		for _, x := range []int{-1, 1, 1 << 32, math.MinInt} {
			other := with(four, k, *at(&four, k)+x)
			if conf.Same(four, other) || conf.Same(other, four) || !conf.Same(other, copied(other)) {
				t.Error(k, x)
			}
		}
	}
	for n := range 7 {
		for m := range 7 {
			if conf.Same(plain(n), plain(m)) != (n == m) {
				t.Error(n, m)
			}
		}
	}
	none, empty := plain(0), plain(0)
	none.Mass, empty.Mass = nil, []int{}
	if !conf.Same(none, empty) || !conf.Same(empty, none) || !conf.Same(api.Conf{}, api.Conf{Mass: four.Mass[:0]}) {
		t.Error("none")
	}
	if conf.Same(of(1, 2, 3, 4, 0, 5, 6), of(1, 2, 3, 4, 0, 6, 5)) || conf.Same(of(1, 2, 3, 4, 0, 5), of(2, 1, 3, 4, 0, 5)) || conf.Same(of(1, 9, 3, 4, 0, 5), of(1, 9, 4, 3, 0, 5)) {
		t.Error("another order")
	}
	for i, c := range mayNots() {
		if !conf.Same(c, copied(c)) {
			t.Error(i)
		}
	}
}

// P11.2: rows by hand, both ways.
func TestRowsByHand(t *testing.T) {
	for _, c := range []struct {
		c api.Conf
		l []int
	}{
		{of(1, 1, 1, 1, 0, 1), []int{1, 1, 1, 1, 1, 1, 0}},
		{of(2, 3, 4, 5, 1, 6), []int{1, 6, 2, 3, 4, 5, 1}},
		{of(20, 30, 40, 50, 2, 7, 6), []int{2, 7, 6, 20, 30, 40, 50, 2}},
		{of(20, 30, 40, 60, 3, 1, 2, 3), []int{3, 1, 2, 3, 20, 30, 40, 60, 3}},
		{of(strong, box, top, 2*box, 4, heavy, 1, heavy, 2), []int{4, 1024, 1, 1024, 2, 1048576, 1048576, 65536, 2097152, 4}},
	} {
		if l, e := conf.Row(c.c); !slices.Equal(l, c.l) || e != api.OK {
			t.Error(c.c, l, e)
		}
		if got, e := conf.Of(c.l); !alike(got, c.c) || e != api.OK {
			t.Error(c.l, got, e)
		}
	}
}

// P11.2: no row, and nothing beside the error, of a configuration that may not be.
func TestRowOfNone(t *testing.T) {
	for i, c := range mayNots() {
		if l, e := conf.Row(c); l != nil || e != api.ErrConf {
			t.Error(i, l, e)
		}
	}
}

func none(t *testing.T, l []int) {
	t.Helper()
	if c, e := conf.Of(l); c.Mass != nil || !alike(c, api.Conf{}) || e != api.ErrConf {
		t.Error(len(l), l[:min(len(l), 30)], c, e)
	}
}

// P11.2: lists that are no configuration's row: too short, too long, with a count that is another one.
func TestOfNoRow(t *testing.T) {
	for n := range 30 {
		for _, count := range []int{-5, -1, 0, 1, 2, 3, 4, 5, 6, 10, 24} {
			l := slices.Repeat([]int{1}, n)
			if n > 0 {
				l[0] = count
			}
			if n == 6+count && count >= 1 && count <= 4 {
				if c, e := conf.Of(l); e != api.OK || len(c.Mass) != count {
					t.Error(n, count, c, e)
				}
				continue
			}
			none(t, l)
		}
	}
	none(t, nil)
	none(t, []int{})
	for n := range 12 {
		for _, count := range []int{n + math.MinInt, n + 1<<62, n + 1<<32, n + 1<<8, -n, math.MaxInt, math.MaxInt - 5, math.MaxInt - 6, math.MinInt} {
			l := slices.Repeat([]int{1}, 6+n)
			if l[0] = count; count != n {
				none(t, l)
			}
		}
	}
	long := slices.Repeat([]int{1}, 100_006)
	none(t, long)
	long[0] = 100_000
	none(t, long)
}

// P11.2: rows of what would be no configuration that may be, by one number alone.
func TestOfNoConf(t *testing.T) {
	for _, c := range mayNots() {
		l := append([]int{len(c.Mass)}, c.Mass...)
		none(t, append(l, c.G, c.Box, c.Top, c.Near, c.Method))
	}
}

// P11.2: rows and configurations are told in memory of their own.
func TestRowsAreOwn(t *testing.T) {
	for _, c := range mays() {
		was := copied(c)
		l, _ := conf.Row(c)
		kept := slices.Clone(l)
		got, _ := conf.Of(l)
		again, _ := conf.Of(l)
		got.Mass[0]++
		if !slices.Equal(l, kept) || !alike(again, was) {
			t.Fatal(l, kept)
		}
		for i := range l {
			l[i] = -1
		}
		if !alike(c, was) || !alike(again, was) {
			t.Fatal(c, was)
		}
	}
}

// P11.3: sums and pairs by hand, and none of what may not be.
func TestTotalAndPairs(t *testing.T) {
	for _, c := range []struct {
		c            api.Conf
		total, pairs int
	}{
		{of(1, 1, 1, 1, 0, 5), 5, 0},
		{of(1, 1, 1, 1, 0, 5, 6), 11, 1},
		{of(1, 1, 1, 1, 0, 5, 6, 7), 18, 3},
		{of(1, 1, 1, 1, 0, 5, 6, 7, 1000), 1018, 6},
		{of(1, 1, 1, 1, 0, heavy, heavy, heavy, heavy), 4096, 6},
		{of(1, 1, 1, 1, 0, 1), 1, 0},
		{of(1, 1, 1, 3, 0, 5, 6), 0, 0}, {plain(0), 0, 0}, {plain(5), 0, 0}, {of(1, 1, 1, 1, 5, 5, 6), 0, 0}, {of(0, 1, 1, 1, 0, 5, 6), 0, 0}, {of(1, 1, 1, 1, 0, 5, 1025), 0, 0},
	} {
		if total, pairs := conf.Total(c.c), conf.Pairs(c.c); total != c.total || pairs != c.pairs {
			t.Error(c.c, total, pairs)
		}
	}
	for i, c := range mayNots() {
		if total, pairs := conf.Total(c), conf.Pairs(c); total != 0 || pairs != 0 {
			t.Error(i, total, pairs)
		}
	}
	for _, c := range mays() {
		total, pairs := 0, 0
		for i, m := range c.Mass {
			total, pairs = total+m, pairs+i
		}
		if conf.Total(c) != total || conf.Pairs(c) != pairs {
			t.Error(c)
		}
	}
}

// P11.4: rows and configurations tell each other.
func TestThereAndBack(t *testing.T) {
	for _, c := range mays() {
		l, e := conf.Row(c)
		if len(l) != 6+len(c.Mass) || e != api.OK {
			t.Fatal(c, l, e)
		}
		got, e := conf.Of(l)
		if !alike(got, c) || !conf.Same(got, c) || e != api.OK {
			t.Fatal(c, got, e)
		}
		if again, _ := conf.Row(got); !slices.Equal(again, l) {
			t.Fatal(l, again)
		}
	}
}

// P11.4: what may be may be with fewer masses, but one.
func TestFewer(t *testing.T) {
	for _, c := range mays() {
		for i := range c.Mass {
			fewer := copied(c)
			fewer.Mass = slices.Delete(fewer.Mass, i, i+1)
			want := api.OK
			if len(c.Mass) == 1 {
				want = api.ErrConf
			}
			if e := conf.Check(fewer); e != want {
				t.Error(fewer, e)
			}
		}
	}
}

// R3: nothing is kept from call to call.
func TestNothingKept(t *testing.T) {
	l := all()
	for range 2 {
		for i := range l {
			c := l[len(l)-1-i]
			if got := conf.Why(c); got != why(c) {
				t.Error(c, got)
			}
		}
	}
}
