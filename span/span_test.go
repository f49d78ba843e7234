package span_test

import (
	"math"
	"slices"
	"testing"

	"tributary/api"
	"tributary/span"
)

type run = span.Run

// most is the greatest number that a set may have.
const most = int64(api.MaxDot)

// holds asks for a list of runs, just as it is.
func holds(t *testing.T, what string, got []run, want ...run) {
	t.Helper()
	if !slices.Equal(got, want) {
		t.Errorf("%s: %v, want %v", what, got, want)
	}
}

// wrongs answers lists that aren't right, each for one cause.
func wrongs() map[string][]run {
	return map[string][]run{
		"from 0":                    {{0, 1}},
		"0 alone":                   {{0, 0}},
		"the zero run":              {{}},
		"from below 0":              {{-1, 3}},
		"from far below 0":          {{math.MinInt64, math.MaxInt64}},
		"below 0 alone":             {{-4, -2}},
		"falls by one":              {{2, 1}},
		"falls":                     {{9, 3}},
		"falls far":                 {{most, 1}},
		"falls to below 0":          {{1, math.MinInt64}},
		"to above MaxDot":           {{5, most + 1}},
		"from above MaxDot":         {{most + 1, most + 1}},
		"to the greatest number":    {{1, math.MaxInt64}},
		"from the greatest number":  {{math.MaxInt64, math.MaxInt64}},
		"no gap":                    {{1, 2}, {3, 4}},
		"no gap behind one":         {{3, 3}, {4, 4}},
		"no gap ahead of MaxDot":    {{1, most - 1}, {most, most}},
		"one number twice":          {{1, 2}, {2, 4}},
		"one within the other":      {{1, 9}, {3, 4}},
		"one run twice":             {{1, 2}, {1, 2}},
		"the second one ahead":      {{4, 4}, {1, 2}},
		"the last one falls":        {{1, 2}, {4, 4}, {9, 8}},
		"the last one has no gap":   {{1, 2}, {4, 4}, {5, 5}},
		"the last one is above":     {{1, 2}, {4, 4}, {6, most + 1}},
		"the one between falls":     {{1, 2}, {6, 4}, {8, 9}},
		"the first one is below":    {{0, 2}, {4, 4}, {6, 6}},
		"behind one that is above":  {{1, math.MaxInt64}, {3, 4}},
		"behind one that is, too":   {{1, math.MaxInt64 - 1}, {3, 4}},
		"behind one that is far":    {{math.MaxInt64, math.MaxInt64}, {1, 1}},
		"ahead of one from below 0": {{1, 2}, {math.MinInt64, 9}},
	}
}

// rights answers sets, from the least to the greatest numbers.
func rights() [][]run {
	return [][]run{
		nil,
		{},
		{{1, 1}},
		{{1, 2}, {4, 4}},
		{{1, 1}, {3, 3}, {5, 5}},
		{{2, 9}},
		{{2, 3}, {6, 8}, {1 << 31, 1 << 32}, {1<<32 + 2, 1 << 39}},
		{{7, 7}, {most - 2, most - 2}, {most, most}},
		{{most - 1, most}},
		{{most, most}},
		{{1, most - 2}, {most, most}},
		{{1, most}},
	}
}

func TestRight(t *testing.T) {
	for _, l := range rights() {
		if !span.Right(l) {
			t.Errorf("Right(%v): false", l)
		}
	}
	for what, l := range wrongs() {
		if span.Right(l) {
			t.Errorf("Right(%v): true: %s", l, what)
		}
	}
}

func TestOf(t *testing.T) {
	for _, c := range []struct {
		n    []int64
		want []run
	}{
		{nil, nil},
		{[]int64{}, nil},
		{[]int64{1}, []run{{1, 1}}},
		{[]int64{1, 2, 4}, []run{{1, 2}, {4, 4}}},
		{[]int64{4, 2, 1, 2}, []run{{1, 2}, {4, 4}}},
		{[]int64{3, 3, 3}, []run{{3, 3}}},
		{[]int64{9, 7, 5, 3}, []run{{3, 3}, {5, 5}, {7, 7}, {9, 9}}},
		{[]int64{5, 4, 3, 2, 1}, []run{{1, 5}}},
		{[]int64{1, 3, 2}, []run{{1, 3}}}, // the last one fills the gap
		{[]int64{8, 2, 9, 3, 2, 10, 12, 8}, []run{{2, 3}, {8, 10}, {12, 12}}},
		{[]int64{most, 1, most - 1, most}, []run{{1, 1}, {most - 1, most}}},
		{[]int64{1<<32 + 1, 1, 1 << 32}, []run{{1, 1}, {1 << 32, 1<<32 + 1}}},
	} {
		l, e := span.Of(c.n...)
		if e != api.OK {
			t.Errorf("Of %v: %v", c.n, e)
		}
		holds(t, "Of", l, c.want...)
	}
}

func TestOfNumbersBeyond(t *testing.T) {
	for _, n := range []int64{math.MinInt64, -most, -2, -1, 0, most + 1, most + 2, math.MaxInt64 - 1, math.MaxInt64} {
		for _, in := range [][]int64{{n}, {n, 3}, {3, n}, {1, n, most}, {n, n}, {5, 4, 5, n}} {
			if l, e := span.Of(in...); e != api.ErrArg || len(l) != 0 {
				t.Errorf("Of %v: %v %v", in, l, e)
			}
		}
	}
}

func TestOfMany(t *testing.T) {
	var odd, all []int64
	for i := range int64(5000) {
		odd = append(odd, 2*(i*7%5000)+1)
		all = append(all, i*3%5000+1)
	}
	l, e := span.Of(odd...)
	if e != api.OK || len(l) != 5000 || l[0] != (run{1, 1}) || l[4999] != (run{9999, 9999}) || !span.Right(l) {
		t.Error(len(l), e)
	}
	l, e = span.Of(all...)
	if e != api.OK {
		t.Error(e)
	}
	holds(t, "all from 1 on", l, run{1, 5000})
}

func TestHas(t *testing.T) {
	l := []run{{2, 3}, {5, 5}, {1 << 32, 1<<32 + 2}, {most - 1, most}}
	for _, n := range []int64{2, 3, 5, 1 << 32, 1<<32 + 1, 1<<32 + 2, most - 1, most} {
		if !span.Has(l, n) {
			t.Errorf("Has of %d: false", n)
		}
	}
	for _, n := range []int64{math.MinInt64, -2, -1, 0, 1, 4, 6, 1<<32 - 1, 1<<32 + 3, most - 2, most + 1, math.MaxInt64} {
		if span.Has(l, n) {
			t.Errorf("Has of %d: true", n)
		}
		if span.Has(nil, n) || span.Has([]run{}, n) {
			t.Errorf("the set of none has %d", n)
		}
	}
}

// three asks Union, Meet and Minus, and Leq, which is as Minus tells.
func three(t *testing.T, a, b, union, meet, minus []run) {
	t.Helper()
	holds(t, "Union", span.Union(a, b), union...)
	holds(t, "Meet", span.Meet(a, b), meet...)
	holds(t, "Minus", span.Minus(a, b), minus...)
	if span.Leq(a, b) != (len(minus) == 0) {
		t.Errorf("Leq(%v, %v): %v", a, b, span.Leq(a, b))
	}
}

func TestUnionMeetMinusByHand(t *testing.T) {
	a, b := []run{{1, 9}}, []run{{3, 4}, {6, 6}, {10, 12}}
	three(t, a, b, []run{{1, 12}}, []run{{3, 4}, {6, 6}}, []run{{1, 2}, {5, 5}, {7, 9}})
	three(t, b, a, []run{{1, 12}}, []run{{3, 4}, {6, 6}}, []run{{10, 12}})
	// They touch one another: one run.
	three(t, []run{{1, 2}}, []run{{3, 4}}, []run{{1, 4}}, nil, []run{{1, 2}})
	three(t, []run{{3, 4}}, []run{{1, 2}}, []run{{1, 4}}, nil, []run{{3, 4}})
	// A gap of one stays.
	three(t, []run{{1, 2}}, []run{{4, 5}}, []run{{1, 2}, {4, 5}}, nil, []run{{1, 2}})
	// What fills gaps, and what cuts.
	three(t, []run{{1, 1}, {3, 3}, {5, 5}}, []run{{2, 2}, {4, 4}}, []run{{1, 5}}, nil, []run{{1, 1}, {3, 3}, {5, 5}})
	three(t, []run{{1, 5}}, []run{{2, 2}, {4, 4}}, []run{{1, 5}}, []run{{2, 2}, {4, 4}}, []run{{1, 1}, {3, 3}, {5, 5}})
	three(t, []run{{2, 2}, {4, 4}}, []run{{1, 5}}, []run{{1, 5}}, []run{{2, 2}, {4, 4}}, nil)
	// One number of both.
	three(t, []run{{1, 5}}, []run{{5, 9}}, []run{{1, 9}}, []run{{5, 5}}, []run{{1, 4}})
	// Both the same.
	three(t, b, b, b, b, nil)
	// Two of a within one of b, and one of b over a gap.
	three(t, []run{{2, 6}, {9, 12}}, []run{{5, 10}}, []run{{2, 12}}, []run{{5, 6}, {9, 10}}, []run{{2, 4}, {11, 12}})
}

func TestUnionMeetMinusAtTheLimits(t *testing.T) {
	all, ends := []run{{1, most}}, []run{{1, 1}, {most, most}}
	three(t, all, all, all, all, nil)
	three(t, all, ends, all, ends, []run{{2, most - 1}})
	three(t, ends, all, all, ends, nil)
	three(t, []run{{1, most - 1}}, []run{{most, most}}, all, nil, []run{{1, most - 1}})
	three(t, []run{{2, most}}, []run{{1, 1}}, all, nil, []run{{2, most}})
	three(t, []run{{1, most - 2}}, []run{{most, most}}, []run{{1, most - 2}, {most, most}}, nil, []run{{1, most - 2}})
	three(t, []run{{1 << 31, 1 << 33}}, []run{{1 << 32, 1 << 32}}, []run{{1 << 31, 1 << 33}}, []run{{1 << 32, 1 << 32}},
		[]run{{1 << 31, 1<<32 - 1}, {1<<32 + 1, 1 << 33}})
}

func TestOfTheSetOfNone(t *testing.T) {
	for _, none := range [][]run{nil, {}} {
		for _, l := range rights() {
			three(t, l, none, l, nil, l)
			three(t, none, l, l, nil, nil)
		}
		if span.Front(none) != 0 || span.Count(none) != 0 {
			t.Error(span.Front(none), span.Count(none))
		}
	}
}

func TestFront(t *testing.T) {
	for _, c := range []struct {
		l    []run
		want int64
	}{
		{[]run{{1, 2}, {4, 4}}, 2},
		{[]run{{1, 1}}, 1},
		{[]run{{1, 9}}, 9},
		{[]run{{2, 9}}, 0},
		{[]run{{2, 2}, {4, 9}}, 0},
		{[]run{{most, most}}, 0},
		{[]run{{1, most - 2}, {most, most}}, most - 2},
		{[]run{{1, most}}, most},
	} {
		if got := span.Front(c.l); got != c.want {
			t.Errorf("Front(%v): %d, want %d", c.l, got, c.want)
		}
	}
}

func TestCount(t *testing.T) {
	for _, c := range []struct {
		l    []run
		want int64
	}{
		{[]run{{1, 2}, {4, 4}}, 3},
		{[]run{{3, 4}, {6, 6}, {10, 12}}, 6},
		{[]run{{7, 7}}, 1},
		{[]run{{most, most}}, 1},
		{[]run{{1, most}}, most},
		{[]run{{1, most - 2}, {most, most}}, most - 1},
		{[]run{{2, 1 << 32}, {1<<32 + 2, 1 << 33}}, 1<<33 - 2},
	} {
		if got := span.Count(c.l); got != c.want {
			t.Errorf("Count(%v): %d, want %d", c.l, got, c.want)
		}
	}
}

// nothing asks all calls that take two sets for zero.
func nothing(t *testing.T, what string, a, b []run) {
	t.Helper()
	if u, m, x := span.Union(a, b), span.Meet(a, b), span.Minus(a, b); len(u)+len(m)+len(x) != 0 {
		t.Errorf("%s: of %v and %v: %v, %v, %v", what, a, b, u, m, x)
	}
	if span.Leq(a, b) {
		t.Errorf("%s: Leq(%v, %v)", what, a, b)
	}
}

func TestOfWrongLists(t *testing.T) {
	for what, l := range wrongs() {
		for _, r := range rights() {
			nothing(t, what, l, r)
			nothing(t, what, r, l)
		}
		for _, other := range wrongs() {
			nothing(t, what, l, other)
		}
		if span.Front(l) != 0 || span.Count(l) != 0 {
			t.Errorf("%s: Front %d, Count %d", what, span.Front(l), span.Count(l))
		}
		for _, r := range append(l, run{1, 4}) {
			if span.Has(l, r[0]) || span.Has(l, r[1]) {
				t.Errorf("%s: it has %v", what, r)
			}
		}
	}
}

// small answers the set of those of six numbers that the bits tell, the first one of them behind base.
func small(bits int, base int64) []run {
	var l []run
	for i := range int64(6) {
		if bits>>i&1 == 0 {
			continue
		}
		if n := base + i + 1; i > 0 && bits>>(i-1)&1 == 1 {
			l[len(l)-1][1] = n
		} else {
			l = append(l, run{n, n})
		}
	}
	return l
}

// numbersOf answers what the bits tell, one by one.
func numbersOf(bits int, base int64) []int64 {
	var n []int64
	for i := range int64(6) {
		if bits>>i&1 == 1 {
			n = append(n, base+i+1)
		}
	}
	return n
}

// All sets of six numbers, and all pairs of them, held against bits: P6.1's words are those of sets.
func TestAgainstBits(t *testing.T) {
	for _, base := range []int64{0, 1, 1<<32 - 3, most - 7, most - 6} {
		for x := range 64 {
			a, n := small(x, base), numbersOf(x, base)
			got, e := span.Of(n...)
			if e != api.OK || !slices.Equal(got, a) || !span.Right(a) || span.Count(a) != int64(len(n)) {
				t.Fatalf("of %v: %v %v, Count %d", n, got, e, span.Count(a))
			}
			for k := base - 1; k <= base+8; k++ {
				if span.Has(a, k) != slices.Contains(n, k) {
					t.Fatalf("Has(%v, %d): %v", a, k, span.Has(a, k))
				}
			}
			front := int64(0)
			for slices.Contains(n, front+1) {
				front++
			}
			if span.Front(a) != front {
				t.Fatalf("Front(%v): %d, want %d", a, span.Front(a), front)
			}
			for y := range 64 {
				three(t, a, small(y, base), small(x|y, base), small(x&y, base), small(x&^y, base))
			}
		}
	}
}

// Sets of many runs, held against their numbers one by one.
func TestOfManyRuns(t *testing.T) {
	var twos, threes, union, meet, minus []int64
	for n := int64(1); n <= 3000; n++ {
		two, three := n%4 < 2, n%6 < 3
		if two {
			twos = append(twos, n)
		}
		if three {
			threes = append(threes, n)
		}
		if two || three {
			union = append(union, n)
		}
		if two && three {
			meet = append(meet, n)
		}
		if two && !three {
			minus = append(minus, n)
		}
	}
	of := func(n []int64) []run {
		l, e := span.Of(n...)
		if e != api.OK || !span.Right(l) {
			t.Fatal(e)
		}
		return l
	}
	three(t, of(twos), of(threes), of(union), of(meet), of(minus))
}

// What is handed in stays as it is, its spare room too, and what is answered is new memory.
func TestListsStandAlone(t *testing.T) {
	room := []run{{1, 2}, {4, 4}, {7, 9}, {20, 21}, {0, 0}}
	other := []run{{3, 3}, {8, 12}, {5, 1}}
	was, otherWas := slices.Clone(room), slices.Clone(other)
	calls := map[string]func() []run{
		"Union":            func() []run { return span.Union(room[:3], other[:2]) },
		"Union of itself":  func() []run { return span.Union(room[:3], room[:3]) },
		"Union with none":  func() []run { return span.Union(room[:3], nil) },
		"Union from none":  func() []run { return span.Union(nil, other[:2]) },
		"Meet":             func() []run { return span.Meet(room[:3], other[:2]) },
		"Meet of itself":   func() []run { return span.Meet(room[:3], room[:3]) },
		"Minus":            func() []run { return span.Minus(other[:2], room[:3]) },
		"Minus with none":  func() []run { return span.Minus(room[:3], nil) },
		"Minus afar":       func() []run { return span.Minus(room[:1], other[:2]) },
		"Union of no runs": func() []run { return span.Union(room[:0], other[:0]) },
	}
	for what, call := range calls {
		first := call()
		want := slices.Clone(first)
		clear(first[:cap(first)])
		_ = append(first[:0], run{-1, -1}, run{-2, -2}, run{-3, -3})
		holds(t, what+", again", call(), want...)
		if !slices.Equal(room, was) || !slices.Equal(other, otherWas) {
			t.Fatalf("%s: what was handed in, or its spare room, is changed: %v %v", what, room, other)
		}
	}
	span.Right(room)
	span.Has(room[:3], 4)
	span.Leq(room[:3], other[:2])
	span.Front(room[:3])
	span.Count(room[:3])
	if !slices.Equal(room, was) || !slices.Equal(other, otherWas) {
		t.Errorf("what was handed in, or its spare room, is changed: %v %v", room, other)
	}
}

func TestOfLeavesItsNumbers(t *testing.T) {
	room := []int64{4, 2, 1, 2, 9, 8}
	was := slices.Clone(room)
	for range 2 {
		l, e := span.Of(room[:4]...)
		if e != api.OK {
			t.Error(e)
		}
		holds(t, "Of", l, run{1, 2}, run{4, 4})
		clear(l[:cap(l)])
	}
	if _, e := span.Of(room[0], room[1], -1); e != api.ErrArg {
		t.Error(e)
	}
	if !slices.Equal(room, was) {
		t.Errorf("the numbers that were handed in, or their spare room, are changed: %v", room)
	}
}
