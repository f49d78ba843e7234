package dot_test

import (
	"math"
	"slices"
	"testing"

	"tributary/api"
	"tributary/dot"
)

// most is the greatest number that a dot may have.
const most = int64(api.MaxDot)

// centers and numbers, rising: the least and the greatest ones, those next to the limits, and some whose differences wrap round.
func centers() []int {
	return []int{math.MinInt, -5, -1, 0, 1, 2, 3, 4, 5, math.MaxInt - 1, math.MaxInt}
}

func numbers() []int64 {
	return []int64{math.MinInt64, -most - 1, -most, -2, -1, 0, 1, 2, 1 << 31, 1 << 32, most - 1, most, most + 1, math.MaxInt64 - 1, math.MaxInt64}
}

// dots answers all dots of these centers and numbers, rising: by the center, then by the number.
func dots() []api.Dot {
	var l []api.Dot
	for _, dc := range centers() {
		for _, n := range numbers() {
			l = append(l, api.Dot{DC: dc, N: n})
		}
	}
	return l
}

// rights answers those of dots that are right, written out.
func rights() []api.Dot {
	var l []api.Dot
	for _, dc := range []int{0, 1, 2, 3} {
		for _, n := range []int64{1, 2, 1 << 31, 1 << 32, 1<<40 - 1, 1 << 40} {
			l = append(l, api.Dot{DC: dc, N: n})
		}
	}
	return l
}

// wrongs answers those of dots that aren't.
func wrongs() []api.Dot {
	return slices.DeleteFunc(dots(), func(d api.Dot) bool { return slices.Contains(rights(), d) })
}

func TestRight(t *testing.T) {
	for _, d := range rights() {
		if !dot.Right(d) {
			t.Errorf("Right(%v): false", d)
		}
	}
	for _, d := range wrongs() {
		if dot.Right(d) {
			t.Errorf("Right(%v): true", d)
		}
	}
	if dot.Right(api.Dot{}) {
		t.Error("the zero Dot is right")
	}
}

func TestCompareByHand(t *testing.T) {
	for _, c := range []struct {
		a, b api.Dot
		want int
	}{
		{api.Dot{DC: 0, N: 1}, api.Dot{DC: 0, N: 1}, 0},
		{api.Dot{DC: 0, N: 1}, api.Dot{DC: 0, N: 2}, -1},
		{api.Dot{DC: 0, N: 9}, api.Dot{DC: 1, N: 2}, -1}, // the center is asked first
		{api.Dot{DC: 3, N: 1}, api.Dot{DC: 2, N: most}, 1},
		{api.Dot{DC: 0, N: 1}, api.Dot{DC: 3, N: 1}, -1}, // 1 alone, however far they are
		{api.Dot{DC: 2, N: 1}, api.Dot{DC: 2, N: 1 << 32}, -1},
		{api.Dot{DC: 2, N: 1<<32 + 1}, api.Dot{DC: 2, N: 2}, 1},
		{api.Dot{DC: math.MinInt, N: 1}, api.Dot{DC: math.MaxInt, N: 1}, -1}, // what lies between wraps round
		{api.Dot{DC: 0, N: math.MaxInt64}, api.Dot{DC: 0, N: math.MinInt64}, 1},
	} {
		if got := dot.Compare(c.a, c.b); got != c.want {
			t.Errorf("Compare(%v, %v): %d, want %d", c.a, c.b, got, c.want)
		}
		if got := dot.Compare(c.b, c.a); got != -c.want {
			t.Errorf("Compare(%v, %v): %d, want %d", c.b, c.a, got, -c.want)
		}
	}
}

// All dots, those that aren't right too: what stands ahead is less.
func TestCompareAll(t *testing.T) {
	l := dots()
	for i, a := range l {
		for j, b := range l {
			want := 0
			if i < j {
				want = -1
			} else if i > j {
				want = 1
			}
			if got := dot.Compare(a, b); got != want {
				t.Fatalf("Compare(%v, %v): %d, want %d", a, b, got, want)
			}
		}
	}
}

func TestNext(t *testing.T) {
	for _, dc := range []int{0, 1, 2, 3} {
		for _, n := range []int64{0, 1, 4, 1<<31 - 1, 1 << 31, 1<<32 - 1, 1 << 32, most - 2, most - 1} {
			if d, e := dot.Next(dc, n); d != (api.Dot{DC: dc, N: n + 1}) || e != api.OK {
				t.Errorf("Next(%d, %d): %v %v", dc, n, d, e)
			}
		}
	}
	if d, e := dot.Next(1, 4); d != (api.Dot{DC: 1, N: 5}) || e != api.OK {
		t.Errorf("the chapter's example: %v %v", d, e)
	}
}

// refused asks Next for an error, and for nothing beside it.
func refused(t *testing.T, dc int, n int64, want api.Errno) {
	t.Helper()
	if d, e := dot.Next(dc, n); d != (api.Dot{}) || e != want {
		t.Errorf("Next(%d, %d): %v %v, want %v", dc, n, d, e, want)
	}
}

func TestNextOfNoCenter(t *testing.T) {
	for _, dc := range []int{math.MinInt, -5, -1, 4, 5, math.MaxInt - 1, math.MaxInt} {
		// Of numbers that are beyond, too: the center is asked first.
		for _, n := range numbers() {
			refused(t, dc, n, api.ErrArg)
		}
	}
}

func TestNextOfNumbersBeyond(t *testing.T) {
	for _, dc := range []int{0, 1, 2, 3} {
		for _, n := range []int64{-1, -2, -most, math.MinInt64 + 1, math.MinInt64} {
			refused(t, dc, n, api.ErrArg)
		}
		for _, n := range []int64{most, most + 1, math.MaxInt64 - 1, math.MaxInt64} {
			refused(t, dc, n, api.ErrOver)
		}
	}
}

// What Next gives is right, and above what it gave ahead of that.
func TestNextRises(t *testing.T) {
	for dc := range api.MaxDC {
		var was api.Dot
		for n := range int64(1000) {
			d, e := dot.Next(dc, n)
			if e != api.OK || !dot.Right(d) || n > 0 && dot.Compare(was, d) != -1 {
				t.Fatalf("Next(%d, %d): %v %v, behind %v", dc, n, d, e, was)
			}
			was = d
		}
	}
}

// least asks Least for one of those that are right.
func least(t *testing.T, want api.Dot, l ...api.Dot) {
	t.Helper()
	if d, ok := dot.Least(l...); d != want || !ok {
		t.Errorf("Least of %v: %v %v, want %v", l, d, ok, want)
	}
}

// none asks Least for none.
func none(t *testing.T, l ...api.Dot) {
	t.Helper()
	if d, ok := dot.Least(l...); d != (api.Dot{}) || ok {
		t.Errorf("Least of %v: %v %v, want none", l, d, ok)
	}
}

func TestLeast(t *testing.T) {
	a, b, c := api.Dot{DC: 0, N: 9}, api.Dot{DC: 1, N: 2}, api.Dot{DC: 1, N: 3}
	for _, l := range [][]api.Dot{{a, b, c}, {a, c, b}, {b, a, c}, {b, c, a}, {c, a, b}, {c, b, a}} {
		least(t, a, l...)
	}
	least(t, b, c, b)
	least(t, b, b, c)
	least(t, c, c)
	least(t, c, c, c)
	for i, d := range rights() {
		least(t, d, rights()[i:]...)
		falling := rights()[i:]
		slices.Reverse(falling)
		least(t, d, falling...)
	}
}

func TestLeastOfNone(t *testing.T) {
	none(t)
	none(t, []api.Dot{}...)
	none(t, api.Dot{})
	none(t, wrongs()...)
	for _, d := range wrongs() {
		none(t, d)
		none(t, d, d)
	}
}

// Those that aren't right don't count, whether they are less or greater, ahead or behind.
func TestLeastAmongWrong(t *testing.T) {
	a, b := api.Dot{DC: 1, N: 7}, api.Dot{DC: 3, N: most}
	for _, d := range wrongs() {
		least(t, a, d, b, a)
		least(t, a, b, d, a)
		least(t, a, a, b, d)
		least(t, b, d, b)
		least(t, b, b, d)
	}
	least(t, b, slices.Concat(wrongs(), []api.Dot{b}, wrongs())...)
	least(t, api.Dot{DC: 0, N: 1}, dots()...)
}

func TestLeastLeavesItsList(t *testing.T) {
	room := []api.Dot{{DC: 2, N: 3}, {DC: 1, N: 2}, {}, {DC: 1, N: 1}, {DC: 9, N: 9}, {DC: 0, N: 1}}
	was := slices.Clone(room)
	for range 2 {
		least(t, api.Dot{DC: 1, N: 1}, room[:4]...)
	}
	if !slices.Equal(room, was) {
		t.Errorf("the list that was handed in, or its spare room, is changed: %v", room)
	}
}
