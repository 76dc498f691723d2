package wide_test

import (
	"math"
	"math/big"
	"slices"
	"strings"
	"testing"

	"gyre/api"
	"gyre/wide"
)

const (
	mostText  = "57896044618658097711785492504343953926634992332820282019728792003956564819967"
	overText  = "57896044618658097711785492504343953926634992332820282019728792003956564819968"
	belowText = "57896044618658097711785492504343953926634992332820282019728792003956564819969"
)

// P2.4: what a value of each kind tells.
func TestFrom(t *testing.T) {
	const all = math.MaxUint64
	a := api.Wide{1, 2, 3, 4}
	for _, c := range []struct {
		x    any
		want api.Wide
	}{
		{0, zero},
		{-1, minus},
		{math.MaxInt, api.Wide{math.MaxInt64}},
		{math.MinInt, api.Wide{1 << 63, all, all, all}},
		{int32(7), api.Wide{7}},
		{int32(-1), minus},
		{'a', api.Wide{97}},
		{int32(math.MaxInt32), api.Wide{math.MaxInt32}},
		{int32(math.MinInt32), api.Wide{all - 1<<31 + 1, all, all, all}},
		{uint64(0), zero},
		{uint64(1 << 63), api.Wide{1 << 63}},
		{uint64(all), api.Wide{all}},
		{zero, zero},
		{a, a},
		{least, least},
		{most, most},
		{&a, a},
		{new(api.Wide), zero},
	} {
		if r, e := wide.From(c.x); r != c.want || e != api.OK {
			t.Errorf("From(%T %v) = %x, %d", c.x, c.x, r, e)
		}
	}
}

// P2.4: texts, to both ends, with as many noughts ahead as there may be.
func TestFromText(t *testing.T) {
	for _, c := range []struct {
		text string
		want api.Wide
	}{
		{"0", zero},
		{"-0", zero},
		{"7", api.Wide{7}},
		{"-1", minus},
		{"0123456789", api.Wide{123456789}},
		{"-0010", wide.Of(-10)},
		{"18446744073709551615", api.Wide{math.MaxUint64}},
		{"18446744073709551616", api.Wide{0, 1}},
		{"340282366920938463463374607431768211456", power(128)},
		{strings.Repeat("0", 78), zero},
		{"-" + strings.Repeat("0", 78), zero},
		{strings.Repeat("0", 77) + "1", one},
		{"-" + strings.Repeat("0", 77) + "1", minus},
		{mostText, most},
		{"0" + mostText, most},
		{"-" + mostText, api.Wide{1, 0, 0, 1 << 63}},
		{"-" + overText, least},
		{"-0" + overText, least},
	} {
		if r, e := wide.From(c.text); r != c.want || e != api.OK {
			t.Errorf("From(%q) = %x, %d", c.text, r, e)
		}
	}
}

// P2.4: texts that tell no wide number: of another form, too long, or too great either way; by 2^256 too, of which no rest is told.
func TestFromTextOfNone(t *testing.T) {
	turns := new(big.Int).Lsh(big.NewInt(1), 256).String()
	for _, text := range []string{
		"", "-", "--1", "+1", "1-", "1-2", "- 1", " 1", "1 ", "1_000", "0x1", "1e3", "1.0", "a", "1a", "a1",
		"/", ":", "1/", "1:", "\x00", "1\x00", "\xff", "1\xff", "\xff1", "-\xff", "\ufffd",
		"\u22121", "\u22120", "\uff11", "1\uff12", "\uff101", "\u0661", "\u00b2", "\uff0d1",
		strings.Repeat("0", 79), "-" + strings.Repeat("0", 79), strings.Repeat("0", 78) + "1", "00" + mostText, "-00" + overText,
		overText, "0" + overText, belowText, "-" + belowText, "-0" + belowText,
		turns, "-" + turns, turns[:77] + "7", "-" + turns[:77] + "7", strings.Repeat("9", 77), strings.Repeat("9", 78), "-" + strings.Repeat("9", 78),
		strings.Repeat("1", 79), strings.Repeat("9", 100000), strings.Repeat("-", 100000), mostText + "x", "-" + overText + "-",
	} {
		if r, e := wide.From(text); r != zero || e != api.ErrArg {
			t.Errorf("From(%q) = %x, %d", text, r, e)
		}
	}
}

// P2.4: each edge, and drawn ones, by their own digits; and those that are as great as twice and ten times.
func TestFromDigits(t *testing.T) {
	for _, a := range slices.Concat(edges(), drawn(300, 17)) {
		for _, factor := range []int64{1, 2, 10, -1} {
			g := new(big.Int).Mul(great(a), big.NewInt(factor))
			want, over := rest(g)
			wantE := api.OK
			if over {
				want, wantE = zero, api.ErrArg
			}
			if r, e := wide.From(g.String()); r != want || e != wantE {
				t.Errorf("From(%v) = %x, %d", g, r, e)
			}
		}
	}
}

type (
	ownInt  int
	ownText string
	ownWide api.Wide
)

// P2.4: all else, and a pointer that is nil.
func TestFromOfNone(t *testing.T) {
	var nilWide *api.Wide
	a := one
	p := &a
	n, text := 1, "1"
	for _, x := range []any{
		nil, nilWide, &p, &nilWide, (*int)(nil), &n, &text,
		int8(1), int16(1), int64(1), uint(1), uint8(1), uint16(1), uint32(1), uintptr(1),
		1.0, float32(1), complex(1, 0), true, false,
		ownInt(1), ownText("1"), ownWide(one), new(ownWide), api.OK, api.ErrArg,
		[4]uint64(one), [4]int{1}, [3]uint64{1}, one[:], []api.Wide{one}, [1]api.Wide{one}, []byte("1"), []rune{'1'}, []any{1},
		map[int]int{}, struct{}{}, struct{ api.Wide }{one}, func() api.Wide { return one }, make(chan int),
	} {
		if r, e := wide.From(x); r != zero || e != api.ErrArg {
			t.Errorf("From(%T) = %x, %d", x, r, e)
		}
	}
}

// R4: what a pointer points to is not changed, and not kept.
func TestFromPointerIsNotKept(t *testing.T) {
	a := api.Wide{1, 2, 3, 4}
	r, _ := wide.From(&a)
	a[0] = 9
	if r != (api.Wide{1, 2, 3, 4}) || a != (api.Wide{9, 2, 3, 4}) {
		t.Error(r, a)
	}
	r[1] = 8
	if again, _ := wide.From(&a); again != (api.Wide{9, 2, 3, 4}) {
		t.Error(again)
	}
}
